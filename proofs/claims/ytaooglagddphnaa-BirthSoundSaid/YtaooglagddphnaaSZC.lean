/- ZC: what BiPSound leans on. Printed by wip/tools/slim13.py. -/
import Derived.Test.YtaooglagddphnaaRows
import Derived.Test.YtaooglagddphnaaSZA
import Derived.Test.YtaooglagddphnaaSZB

/- Trees of rows, plainly: a row's right tree, what its nodes' cells have, ways down and up, hanging, marks. -/
namespace Go.Proofs.Ytaooglagddphnaa

/-- A tree of nodes. -/
inductive Tp where
  | nil : Tp
  | node (l : Tp) (x : Nat) (r : Tp) : Tp
namespace Tp
def root : Tp → Nat
  | nil => 0
  | node _ x _ => x
def row : Tp → List Nat
  | nil => []
  | node l x r => l.row ++ x :: r.row
def size (t : Tp) : Nat := t.row.length
theorem row_node (l : Tp) (x : Nat) (r : Tp) : (Tp.node l x r).row = l.row ++ x :: r.row := rfl
theorem size_node (l : Tp) (x : Nat) (r : Tp) : (Tp.node l x r).size = l.size + 1 + r.size := by simp [size, row]; omega
/-- A tree's root is of its row, or it is empty. -/
theorem root_mem : ∀ {t : Tp}, t.root ≠ 0 → t.root ∈ t.row
  | nil, h => absurd rfl h
  | node l x r, _ => by simp [root, row]
end Tp

/-- Is a node above another one? -/
def ab (pri : Nat → Nat) (x y : Nat) : Bool := decide (pri y < pri x ∨ (pri x = pri y ∧ x < y))
theorem ab_yes {pri : Nat → Nat} {x y : Nat} : ab pri x y = true ↔ (pri y < pri x ∨ (pri x = pri y ∧ x < y)) := by unfold ab; exact decide_eq_true_iff
theorem ab_asymm {pri : Nat → Nat} {x y : Nat} (h1 : ab pri x y = true) : ab pri y x = false := by rw [Bool.eq_false_iff, Ne, ab_yes]; rw [ab_yes] at h1; omega
/-- Each node is above all below it. -/
def Hp (pri : Nat → Nat) : Tp → Prop
  | .nil => True
  | .node l x r => (∀ y ∈ l.row, ab pri x y = true) ∧ (∀ y ∈ r.row, ab pri x y = true) ∧ Hp pri l ∧ Hp pri r

/-- How many of a row are vertices; the marks that any of them has. -/
def cntV (vx : Nat → Bool) (l : List Nat) : Nat := (l.filter vx).length
def allM (mk : Nat → Nat) : List Nat → Nat
  | [] => 0
  | x :: l => mk x ||| allM mk l
theorem cntV_app (vx : Nat → Bool) (a b : List Nat) : cntV vx (a ++ b) = cntV vx a + cntV vx b := by simp [cntV]
theorem cntV_cons (vx : Nat → Bool) (x : Nat) (b : List Nat) : cntV vx (x :: b) = (if vx x then 1 else 0) + cntV vx b := by
  unfold cntV; rw [List.filter_cons]; split <;> simp <;> omega
theorem cntV_le (vx : Nat → Bool) (a : List Nat) : cntV vx a ≤ a.length := List.length_filter_le _ _
theorem allM_app (mk : Nat → Nat) : ∀ (a b : List Nat), allM mk (a ++ b) = allM mk a ||| allM mk b
  | [], b => by simp [allM]
  | x :: a, b => by simp [allM, allM_app mk a b, Nat.or_assoc]
theorem or_lt4 {a b : Nat} (ha : a < 4) (hb : b < 4) : a ||| b < 4 := Nat.or_lt_two_pow (n := 2) ha hb
theorem allM_lt {mk : Nat → Nat} (h : ∀ x, mk x < 4) : ∀ (a : List Nat), allM mk a < 4
  | [] => by simp [allM]
  | x :: a => or_lt4 (h x) (allM_lt h a)
theorem allM_congr {mk mk' : Nat → Nat} : ∀ {a : List Nat}, (∀ x ∈ a, mk' x = mk x) → allM mk' a = allM mk a
  | [], _ => rfl
  | x :: a, h => by simp only [allM]; rw [h x (by simp), allM_congr fun y hy => h y (by simp [hy])]

/-- A sum's bits. -/
def sumW (n v o a : Nat) : Nat := n + 65536 * v + 4294967296 * o + 17179869184 * a
def nS (s : Nat) : Nat := s % 65536
def vS (s : Nat) : Nat := s / 65536 % 65536
def oS (s : Nat) : Nat := s / 4294967296 % 4
def aS (s : Nat) : Nat := s / 17179869184 % 4
theorem sumW_parts {n v o a : Nat} (h1 : n < 65536) (h2 : v < 65536) (h3 : o < 4) (h4 : a < 4) : nS (sumW n v o a) = n ∧ vS (sumW n v o a) = v ∧ oS (sumW n v o a) = o ∧ aS (sumW n v o a) = a := by
  unfold sumW nS vS oS aS; omega
/-- The bits as they are joined, whatever the parts. -/
def packW (n v o a : Nat) : Nat := n ||| v * 65536 ||| o * 4294967296 ||| a * 17179869184
theorem packW_sum {n v o a : Nat} (hn : n < 65536) (hv : v < 65536) (ho : o < 4) : packW n v o a = sumW n v o a := by
  have cm : ∀ i x y : Nat, y < 2 ^ i → y ||| (x * 2 ^ i) = x * 2 ^ i + y := fun i x y hy => by
    rw [Nat.or_comm, Nat.mul_comm x, ← Nat.two_pow_add_eq_or_of_lt hy]
  unfold packW
  rw [show v * 65536 = v * 2 ^ 16 from rfl, show o * 4294967296 = o * 2 ^ 32 from rfl, show a * 17179869184 = a * 2 ^ 34 from rfl, cm 16 v n hn, cm 32 o _ (by omega), cm 34 a _ (by omega)]
  unfold sumW; omega
theorem packW_lt {n v o a : Nat} (hn : n < 281474976710656) (hv : v < 281474976710656) (ho : o < 4) (ha : a < 4) : packW n v o a < 18446744073709551616 := by
  unfold packW
  refine Nat.or_lt_two_pow (n := 64) (Nat.or_lt_two_pow (n := 64) (Nat.or_lt_two_pow (n := 64) ?_ ?_) ?_) ?_ <;> omega

/-- The sum of a tree. -/
def sumT (vx : Nat → Bool) (mk : Nat → Nat) : Tp → Nat
  | .nil => 0
  | .node l x r => sumW (Tp.node l x r).row.length (cntV vx (Tp.node l x r).row) (mk x) (allM mk (Tp.node l x r).row)
theorem sumT_node (vx : Nat → Bool) (mk : Nat → Nat) (l : Tp) (x : Nat) (r : Tp) : sumT vx mk (.node l x r) = sumW (Tp.node l x r).row.length (cntV vx (Tp.node l x r).row) (mk x) (allM mk (Tp.node l x r).row) := rfl
theorem sumT_parts {vx : Nat → Bool} {mk : Nat → Nat} (hm : ∀ x, mk x < 4) (t : Tp) (h : t.size < 65536) :
    nS (sumT vx mk t) = t.size ∧ vS (sumT vx mk t) = cntV vx t.row ∧ aS (sumT vx mk t) = allM mk t.row := by
  cases t with
  | nil => refine ⟨?_, ?_, ?_⟩ <;> simp [nS, vS, aS, sumT, Tp.size, Tp.row, cntV, allM]
  | node l x r =>
    have h1 := sumW_parts (n := (Tp.node l x r).row.length) (v := cntV vx (Tp.node l x r).row) (o := mk x) (a := allM mk (Tp.node l x r).row) h (Nat.lt_of_le_of_lt (cntV_le _ _) h) (hm x) (allM_lt hm _)
    exact ⟨h1.1, h1.2.1, h1.2.2.2⟩
theorem sumT_congr {vx : Nat → Bool} {mk mk' : Nat → Nat} {t : Tp} (h : ∀ x ∈ t.row, mk' x = mk x) : sumT vx mk' t = sumT vx mk t := by
  cases t with
  | nil => rfl
  | node l x r => rw [sumT_node, sumT_node, h x (by simp [Tp.row]), allM_congr h]

/-- What a node's field has: 2: its parent, 3: left, 4: right, 5: its priority, 6: its sum. -/
abbrev Mg9 := Nat → Nat → Nat
def up2 (g : Mg9) (x k v : Nat) : Mg9 := fun y j => if y = x ∧ j = k then v else g y j
theorem up2_same (g : Mg9) (x k v : Nat) : up2 g x k v x k = v := if_pos ⟨rfl, rfl⟩
theorem up2_node (g : Mg9) {x y : Nat} (k v j : Nat) (h : y ≠ x) : up2 g x k v y j = g y j := if_neg fun e => h e.1
theorem up2_field (g : Mg9) {k j : Nat} (x y v : Nat) (h : j ≠ k) : up2 g x k v y j = g y j := if_neg fun e => h e.2

/-- The cells of all nodes of a tree are right, but for its root's parent. -/
def Loose (vx : Nat → Bool) (mk : Nat → Nat) (g : Mg9) : Tp → Prop
  | .nil => True
  | .node l x r => g x 3 = l.root ∧ g x 4 = r.root ∧ g x 6 = sumT vx mk (.node l x r) ∧ (l.root ≠ 0 → g l.root 2 = x) ∧ (r.root ≠ 0 → g r.root 2 = x) ∧ Loose vx mk g l ∧ Loose vx mk g r
/-- A tree stands right in memory. -/
def Stands (vx : Nat → Bool) (mk : Nat → Nat) (g : Mg9) (t : Tp) : Prop := Loose vx mk g t ∧ (t.root ≠ 0 → g t.root 2 = 0)

theorem Loose.congr {vx : Nat → Bool} {mk mk' : Nat → Nat} {g g' : Mg9} : ∀ {t : Tp}, Loose vx mk g t → (∀ x ∈ t.row, mk' x = mk x ∧ g' x 3 = g x 3 ∧ g' x 4 = g x 4 ∧ g' x 6 = g x 6) → t.row.Nodup → (∀ x ∈ t.row, x ≠ t.root → g' x 2 = g x 2) → Loose vx mk' g' t
  | .nil, _, _, _, _ => trivial
  | .node l x r, h, h1, hn, h2 => by
    obtain ⟨a, b, c, d, e, hl, hr⟩ := h
    have hx := h1 x (by simp [Tp.row])
    rw [Tp.row_node, List.nodup_append] at hn
    obtain ⟨nl, nr, nd⟩ := hn
    rw [List.nodup_cons] at nr
    have lx : ∀ y ∈ l.row, y ≠ x := fun y hy => nd y hy x (by simp)
    have rx : ∀ y ∈ r.row, y ≠ x := fun y hy e => nr.1 (e ▸ hy)
    refine ⟨hx.2.1.trans a, hx.2.2.1.trans b, ?_, fun h0 => ?_, fun h0 => ?_, Loose.congr hl (fun y hy => h1 y (by simp [Tp.row, hy])) nl fun y hy _ => h2 y (by simp [Tp.row, hy]) (lx y hy), Loose.congr hr (fun y hy => h1 y (by simp [Tp.row, hy])) nr.2 fun y hy _ => h2 y (by simp [Tp.row, hy]) (rx y hy)⟩
    · rw [hx.2.2.2, c, sumT_congr fun y hy => (h1 y hy).1]
    · rw [h2 _ (by simp [Tp.row, Tp.root_mem h0]) (lx _ (Tp.root_mem h0))]; exact d h0
    · rw [h2 _ (by simp [Tp.row, Tp.root_mem h0]) (rx _ (Tp.root_mem h0))]; exact e h0
/-- Where nothing of a tree's nodes turned. -/
theorem Loose.same {vx : Nat → Bool} {mk : Nat → Nat} {g g' : Mg9} {t : Tp} (h : Loose vx mk g t) (hn : t.row.Nodup) (h1 : ∀ x ∈ t.row, ∀ k, g' x k = g x k) : Loose vx mk g' t :=
  h.congr (fun x hx => ⟨rfl, h1 x hx 3, h1 x hx 4, h1 x hx 6⟩) hn fun x hx _ => h1 x hx 2
/-- What is at a tree's root. -/
theorem Loose.sum {vx : Nat → Bool} {mk : Nat → Nat} {g : Mg9} (h0 : ∀ k, g 0 k = 0) {t : Tp} (h : Loose vx mk g t) : g t.root 6 = sumT vx mk t := by
  cases t with
  | nil => exact h0 6
  | node l x r => exact h.2.2.1

/-- A sum that is reckoned anew. -/
def reckG (vx : Nat → Bool) (g : Mg9) (x own : Nat) : Mg9 :=
  up2 g x 6 (packW (1 + nS (g (g x 3) 6) + nS (g (g x 4) 6)) ((if vx x then 1 else 0) + vS (g (g x 3) 6) + vS (g (g x 4) 6)) own (own ||| aS (g (g x 3) 6) ||| aS (g (g x 4) 6)))
theorem reckG_other (vx : Nat → Bool) (g : Mg9) {x y : Nat} (own k : Nat) (h : y ≠ x) : reckG vx g x own y k = g y k := up2_node _ _ _ _ h
theorem reckG_field (vx : Nat → Bool) (g : Mg9) {k : Nat} (x y own : Nat) (h : k ≠ 6) : reckG vx g x own y k = g y k := up2_field _ _ _ _ h

/-- A tree whose root alone has no right sum. -/
theorem reck_loose {vx : Nat → Bool} {mk : Nat → Nat} (hm : ∀ x, mk x < 4) {g : Mg9} (h0 : ∀ k, g 0 k = 0) {l r : Tp} {x : Nat} (hn : (Tp.node l x r).row.Nodup) (hz : (Tp.node l x r).size < 65536)
    (a : g x 3 = l.root) (b : g x 4 = r.root) (c : l.root ≠ 0 → g l.root 2 = x) (d : r.root ≠ 0 → g r.root 2 = x) (hl : Loose vx mk g l) (hr : Loose vx mk g r) : Loose vx mk (reckG vx g x (mk x)) (.node l x r) := by
  have hn' := hn
  rw [Tp.row_node, List.nodup_append] at hn
  obtain ⟨nl, nr, nd⟩ := hn
  rw [List.nodup_cons] at nr
  have lx : ∀ y ∈ l.row, y ≠ x := fun y hy => nd y hy x (by simp)
  have rx : ∀ y ∈ r.row, y ≠ x := fun y hy e => nr.1 (e ▸ hy)
  rw [Tp.size_node] at hz
  have pl := sumT_parts (vx := vx) hm l (by omega)
  have pr := sumT_parts (vx := vx) hm r (by omega)
  refine ⟨(reckG_field _ _ _ _ _ (by decide)).trans a, (reckG_field _ _ _ _ _ (by decide)).trans b, ?_, fun h => (reckG_field _ _ _ _ _ (by decide)).trans (c h), fun h => (reckG_field _ _ _ _ _ (by decide)).trans (d h), hl.same nl fun y hy k => reckG_other _ _ _ _ (lx y hy), hr.same nr.2 fun y hy k => reckG_other _ _ _ _ (rx y hy)⟩
  have cl := cntV_le vx l.row
  have cr := cntV_le vx r.row
  have zl : l.size = l.row.length := rfl
  have zr : r.size = r.row.length := rfl
  have c1 : (if vx x = true then 1 else 0) ≤ 1 := by split <;> omega
  unfold reckG
  rw [up2_same, a, b, hl.sum h0, hr.sum h0, pl.1, pl.2.1, pl.2.2, pr.1, pr.2.1, pr.2.2, packW_sum (by omega) (by omega) (hm x)]
  rw [sumT_node, Tp.row_node, cntV_app, cntV_cons, allM_app]
  have e1 : (l.row ++ x :: r.row).length = 1 + l.size + r.size := by simp [Tp.size]; omega
  have e2 : allM mk l.row ||| allM mk (x :: r.row) = mk x ||| allM mk l.row ||| allM mk r.row := by simp only [allM]; rw [← Nat.or_assoc, Nat.or_comm (allM mk l.row)]
  rw [e1, e2]
  congr 1
  omega

/-- A tree is hung on a side of a node, whose sum is reckoned then. -/
def setP (g : Mg9) (x p : Nat) : Mg9 := if x = 0 then g else up2 g x 2 p
theorem setP_field (g : Mg9) {k : Nat} (x p y : Nat) (h : k ≠ 2) : setP g x p y k = g y k := by unfold setP; split; rfl; exact up2_field _ _ _ _ h
theorem setP_other (g : Mg9) {x y : Nat} (p k : Nat) (h : y ≠ x) : setP g x p y k = g y k := by unfold setP; split; rfl; exact up2_node _ _ _ _ h
theorem setP_same (g : Mg9) {x : Nat} (p : Nat) (h : x ≠ 0) : setP g x p x 2 = p := by unfold setP; rw [if_neg h]; exact up2_same _ _ _ _
end Go.Proofs.Ytaooglagddphnaa

/- Ways down and up in trees, plainly: splitting, merging, marking, places. -/
namespace Go.Proofs.Ytaooglagddphnaa

end Go.Proofs.Ytaooglagddphnaa

/- Trees in memory: what nodes' cells have; contracts of node, load, store. -/
namespace Go.Proofs.Ytaooglagddphnaa
open Go.RowKit

set_option maxRecDepth 100000

/-- Is a node an arc; its level; has it a pointer cell? -/
def arcN (V : Int) (x : Nat) : Bool := decide (vn V ≤ (x : Int) - 1)
def lvN (V : Int) (x : Nat) : Int := if vn V ≤ (x : Int) - 1 then ((x : Int) - 1 - vn V) % sn V / 2 else ((x : Int) - 1) / V
def isP (V : Int) (x : Nat) : Bool := decide (x ≠ 0 ∧ lvN V x = 0)
def nN (V S : Int) : Nat := (nd V S).toNat
/-- A node's field's cell. -/
def cN (V S T : Int) (x k : Nat) : Nat := (o5 V S T + ((x : Int) - 1) * 7 + (k : Int)).toNat
def cellsN (V S T : Int) : Nat := (cn V S T).toNat

section
variable {V S T : Int}
theorem nN_int (h : Rt V S T) : ((nN V S : Nat) : Int) = nd V S := by have := (sizes h).nd1; unfold nN; omega
theorem nN_le (h : Rt V S T) : nN V S ≤ 560 := by have := (sizes h).nd2; unfold nN; omega
theorem o5_bd (h : Rt V S T) : 0 ≤ o5 V S T := by
  have z := sizes h
  have a1 := z.vn1
  have a2 := h.s1
  have a3 := h.t1
  have a4 : 0 ≤ pr V := by unfold pr; exact Int.ediv_nonneg (Int.mul_nonneg (by have := h.v1; omega) (by have := h.v1; omega)) (by omega)
  unfold o5; omega
theorem cN_int (h : Rt V S T) {x k : Nat} (h1 : 1 ≤ x) : ((cN V S T x k : Nat) : Int) = o5 V S T + ((x : Int) - 1) * 7 + (k : Int) := by have := o5_bd h; unfold cN; omega
theorem field_cN (h : Rt V S T) {x k : Nat} (h1 : 1 ≤ x) (h2 : x ≤ nN V S) (h3 : k < 7) : fieldF V S T (x : Int) (k : Int) = (cN V S T x k : Int) := by
  have := nN_int h
  rw [cN_int h h1]; unfold fieldF; rw [if_pos (by omega)]
theorem cN_lt (h : Rt V S T) {x k : Nat} (h1 : 1 ≤ x) (h2 : x ≤ nN V S) (h3 : k < 7) : cN V S T x k < cellsN V S T := by
  have e1 := nN_int h
  have e2 := cN_int (k := k) h h1
  have e3 : cn V S T = o5 V S T + nd V S * 7 := by unfold cn o5; omega
  have := o5_bd h
  unfold cellsN; omega
theorem cN_inj (h : Rt V S T) {x y k j : Nat} (h1 : 1 ≤ x) (h2 : 1 ≤ y) (h3 : k < 7) (h4 : j < 7) (e : cN V S T x k = cN V S T y j) : x = y ∧ k = j := by
  have e2 := cN_int (k := k) h h1
  have e3 := cN_int (k := j) h h2
  omega

/-- The cells' numbers, and what the nodes have. -/
structure Rl (V S T : Int) (f : Nat → Int) (g : Mg9) : Prop where
  z : ∀ k, g 0 k = 0
  c : ∀ x k, 1 ≤ x → x ≤ nN V S → 3 ≤ k → k ≤ 6 → f (cN V S T x k) = (g x k : Int)
  a : ∀ x, 1 ≤ x → x ≤ nN V S → isP V x = false → f (cN V S T x 2) = (g x 2 : Int)
  p : ∀ x, 1 ≤ x → x ≤ nN V S → isP V x = true → rightV (f (cN V S T x 2)) = true ∧ rN (f (cN V S T x 2)) = (g x 2 : Int)
  b : ∀ x, x ≤ nN V S → g x 2 ≤ nN V S ∧ g x 3 ≤ nN V S ∧ g x 4 ≤ nN V S
  o : ∀ i, (∀ x k, 1 ≤ x → x ≤ nN V S → 2 ≤ k → k ≤ 6 → i ≠ cN V S T x k) → f i = (g (nN V S + 1 + i) 5 : Int)

variable {w w' : World} {p gb cap m m' : Nat} {g : Mg9}
/-- The value of trees, and their variable. -/
abbrev vTr (V S T : Int) (p : Nat) : Value := .agg #[.int .i64 V, .int .i64 S, .int .i64 T, .iface 84 (pmV p), .int .i64 1, .int .i64 0]
def TB (w : World) (b : Nat) (V S T : Int) (p : Nat) : Prop := Blk w b 32 #[.int .i64 V, .int .i64 S, .int .i64 T, .iface 84 (pmV p), .int .i64 1, .int .i64 0]
theorem TB.new (w : World) (V S T : Int) (p : Nat) : TB (w.alloc (.cells #[.int .i64 V, .int .i64 S, .int .i64 T, .iface 84 (pmV p), .int .i64 1, .int .i64 0] 32)) w.heap.size V S T p := Blk.new _ _ _
theorem TB.lt {b : Nat} (h : TB w b V S T p) : b < w.heap.size := Blk.lt h
theorem TB.below {b : Nat} (h : TB w b V S T p) (hb : Below w.heap.size w w') : TB w' b V S T p := Blk.below h hb (Blk.lt h)
theorem TB.alloc {b : Nat} (h : TB w b V S T p) (o : Obj) : TB (w.alloc o) b V S T p := Blk.alloc h o
theorem TB.cells {b : Nat} (h : TB w b V S T p) : w.cell? ⟨b, 0, none⟩ = some (.int .i64 V) ∧ w.cell? ⟨b, 1, none⟩ = some (.int .i64 S) ∧ w.cell? ⟨b, 2, none⟩ = some (.int .i64 T) ∧ w.cell? ⟨b, 3, none⟩ = some (.iface 84 (pmV p)) ∧ w.cell? ⟨b, 4, none⟩ = some (.int .i64 1) ∧ w.cell? ⟨b, 5, none⟩ = some (.int .i64 0) :=
  ⟨Blk.cell h 0, Blk.cell h 1, Blk.cell h 2, Blk.cell h 3, Blk.cell h 4, Blk.cell h 5⟩

/-- Node, of a node that is there, or of none. -/
theorem node_is (h : Rt V S T) {x : Nat} (h1 : 1 ≤ x) (h2 : x ≤ nN V S) (w : World) :
    Calls Try.prog 107 #[vL V S T, .int .i64 (x : Int)] w fun e w' => (∃ v s d, e = .returned (.tuple #[vT (arcN V x) (lvN V x) v s d, .bool true])) ∧ Below w.heap.size w w' := by
  have e1 := nN_int h
  by_cases ha : vn V ≤ (x : Int) - 1
  · refine (node_arc V S T (x : Int) h (by omega) ha w).mono ?_
    rintro e w' ⟨rfl, hb⟩
    exact ⟨⟨0, ((x : Int) - 1 - vn V) / sn V, ((x : Int) - 1 - vn V) % 2, by unfold arcN lvN; rw [decide_eq_true ha, if_pos ha]⟩, hb⟩
  · refine (node_vertex V S T (x : Int) h (by omega) (by omega) w).mono ?_
    rintro e w' ⟨rfl, hb⟩
    exact ⟨⟨((x : Int) - 1) % V, 0, 0, by unfold arcN lvN; rw [decide_eq_false ha, if_neg ha]⟩, hb⟩

theorem tnode_any (hR : Rt V S T) {x : Nat} (hx : x ≤ nN V S) (p : Nat) (w : World) :
    Calls Try.prog 143 #[vTr V S T p, .int .i64 (x : Int)] w fun e w' => e = .returned (.int .i64 (x : Int)) ∧ Below w.heap.size w w' := by
  have HR := Lib.hid hR
  clear hR
  by_cases h0 : x = 0
  · subst h0
    go_enter Try.func143, Try.ntmps143
    go_wp2_with fail
    refine (node_low V S T 0 (by omega) _).mono ?_; rintro e w1 ⟨rfl, hb1⟩
    have HB := Lib.hid (keepL ((Below.refl _ _).alloc (Nat.le_refl _) _) hb1)
    clear hb1
    go_wp2_with fail
    go_ret
    exact ⟨rfl, HB.out.alloc HB.out.size _⟩
  · go_enter Try.func143, Try.ntmps143
    go_wp2_with fail
    refine (node_is HR.out (by omega) hx _).mono ?_; rintro e w1 ⟨⟨v, s, d, rfl⟩, hb1⟩
    have HB := Lib.hid (keepL ((Below.refl _ _).alloc (Nat.le_refl _) _) hb1)
    clear hb1
    go_wp2_with fail
    go_ret
    exact ⟨rfl, HB.out.alloc HB.out.size _⟩
end

end Go.Proofs.Ytaooglagddphnaa

/- Contracts of load, store, child, isPointer, parent, setParent. -/
namespace Go.Proofs.Ytaooglagddphnaa
open Go.RowKit

set_option maxRecDepth 100000

theorem field_none (V S T : Int) {x : Nat} (h : x = 0) (k : Int) : fieldF V S T (x : Int) k = -1 := by subst h; exact if_neg (by omega)
theorem right_pen {o y : Int} (h1 : 0 ≤ o) (h2 : o ≤ 65535) (h3 : 0 ≤ y) (h4 : y ≤ 65535) : rightW o y 1 0 = true := by rw [rightW_eq]; exact decide_eq_true (by omega)

section
variable {V S T : Int} {f : Nat → Int} {g : Mg9}
theorem up2_b {n : Nat} {x k v : Nat} (hb : ∀ y, y ≤ n → g y 2 ≤ n ∧ g y 3 ≤ n ∧ g y 4 ≤ n) (hv : k ≤ 4 → v ≤ n) : ∀ y, y ≤ n → up2 g x k v y 2 ≤ n ∧ up2 g x k v y 3 ≤ n ∧ up2 g x k v y 4 ≤ n := by
  intro y hy
  have h := hb y hy
  refine ⟨?_, ?_, ?_⟩ <;> (unfold up2; split)
  · rename_i e; exact hv (by omega)
  · exact h.1
  · rename_i e; exact hv (by omega)
  · exact h.2.1
  · rename_i e; exact hv (by omega)
  · exact h.2.2
variable {w w' : World} {p gb cap m : Nat}
theorem isPointer_any (hR : Rt V S T) {x : Nat} (hx : x ≤ nN V S) (p : Nat) (w : World) :
    Calls Try.prog 125 #[vTr V S T p, .int .i64 (x : Int)] w fun e w' => e = .returned (.bool (isP V x)) ∧ Below w.heap.size w w' := by
  have HR := Lib.hid hR
  clear hR
  by_cases h0 : x = 0
  · subst h0
    go_enter Try.func125, Try.ntmps125
    go_wp2_with fail
    refine (node_low V S T 0 (by omega) _).mono ?_; rintro e w1 ⟨rfl, hb1⟩
    have HB := Lib.hid (keepL ((Below.refl _ _).alloc (Nat.le_refl _) _) hb1)
    clear hb1
    go_wp2_with fail
    go_ret
    exact ⟨rfl, HB.out.alloc HB.out.size _⟩
  · have hx1 : 1 ≤ x := by omega
    by_cases hl : lvN V x = 0
    · rw [show isP V x = true from decide_eq_true ⟨h0, hl⟩]
      go_enter Try.func125, Try.ntmps125
      go_wp2_with fail
      refine (node_is HR.out hx1 hx _).mono ?_; rintro e w1 ⟨⟨v, s, d, rfl⟩, hb1⟩; rw [hl]
      have HB := Lib.hid (keepL ((Below.refl _ _).alloc (Nat.le_refl _) _) hb1)
      clear hb1
      go_wp2_with fail
      go_ret
      exact ⟨rfl, HB.out.alloc HB.out.size _⟩
    · rw [show isP V x = false from decide_eq_false fun h => hl h.2]
      obtain ⟨l, el⟩ : ∃ l, lvN V x = l := ⟨_, rfl⟩
      rw [el] at hl
      have HL := Lib.hid el
      clear el
      go_enter Try.func125, Try.ntmps125
      go_wp2_with fail
      refine (node_is HR.out hx1 hx _).mono ?_; rintro e w1 ⟨⟨v, s, d, rfl⟩, hb1⟩; rw [HL.out]
      have HB := Lib.hid (keepL ((Below.refl _ _).alloc (Nat.le_refl _) _) hb1)
      clear hb1
      go_wp2_with fail
      go_ret
      exact ⟨by show Ending.returned (.bool (l == 0)) = _; rw [show (l == 0) = false from beq_eq_false_iff_ne.2 hl], HB.out.alloc HB.out.size _⟩
end

end Go.Proofs.Ytaooglagddphnaa

/- Contracts of child, parent, setParent. Printed by wip/tools/trpe.py. -/
namespace Go.Proofs.Ytaooglagddphnaa
open Go.RowKit

set_option maxRecDepth 100000

theorem kI2 : (2 : Int) = ((2 : Nat) : Int) := rfl
theorem kI3 : (3 : Int) = ((3 : Nat) : Int) := rfl
theorem kI4 : (4 : Int) = ((4 : Nat) : Int) := rfl
theorem kI6 : (6 : Int) = ((6 : Nat) : Int) := rfl

section
variable {V S T : Int} {g : Mg9} {w w' : World} {p gb cap m : Nat}

/-- Nothing is stored where there is no node. -/
theorem store_none (hR : Rt V S T) {x : Nat} (hx : x ≤ nN V S) (hf : fieldF V S T (x : Int) 2 = -1) (p v : Nat) (w : World) :
    Calls Try.prog 97 #[vTr V S T p, .int .i64 (x : Int), .int .i64 2, .int .u64 (v : Int)] w fun e w' => e = .returned (.tuple #[]) ∧ Below w.heap.size w w' := by
  have HR := Lib.hid hR
  have HF := Lib.hid hf
  have xI : Hid ((x : Int) ≤ 9223372036854775807) := Lib.hid (by have := nN_le hR; omega)
  clear hR hf hx
  go_enter Try.func97, Try.ntmps97
  go_wp2_with fail
  refine (field_yes V S T (x : Int) 2 HR.out (by omega) xI.out _).mono ?_; rintro e w1 ⟨rfl, hb1⟩; rw [HF.out]
  have HB := Lib.hid (keepL ((Below.refl _ _).alloc (Nat.le_refl _) _) hb1)
  clear hb1
  go_wp2_with fail
  exact bodyPost_ret (v := .tuple #[]) (by simp [results, Try.results97, go_sem]) rfl ⟨rfl, HB.out⟩

theorem isW_wrO {v y : Int} (h0 : 0 ≤ y) (h1 : y ≤ 65535) : rightW (wrO (rO v) (rN v) (rT v) (rG v) 1 0) y 1 0 = true := by
  obtain ⟨a1, a2, a3, a4, _⟩ := right_bd (isW_any v).right
  unfold wrO
  split
  · exact right_pen a1 a2 h0 h1
  · exact right_pen a3 a4 h0 h1

end

end Go.Proofs.Ytaooglagddphnaa

/- Contracts of sum, children, above, Size, Vertices, markBit, Marked. Printed by wip/tools/trpf.py. -/
namespace Go.Proofs.Ytaooglagddphnaa
open Go.RowKit

set_option maxRecDepth 100000

theorem sum_bits {s : Nat} (h : s ≤ 18446744073709551615) : bits .and .u64 (s : Int) 65535 = (nS s : Int) ∧ bits .and .u64 ((s : Int) / 65536) 65535 = (vS s : Int) ∧ bits .and .u64 ((s : Int) / 4294967296) 3 = (oS s : Int) ∧ bits .and .u64 ((s : Int) / 17179869184) 3 = (aS s : Int) :=
  ⟨and_nat 16 65536 65535 s rfl rfl (by omega) (by omega),
   (by rw [show (s : Int) / 65536 = ((s / 65536 : Nat) : Int) by omega]; exact and_nat 16 65536 65535 (s / 65536) rfl rfl (by omega) (by omega)),
   (by rw [show (s : Int) / 4294967296 = ((s / 4294967296 : Nat) : Int) by omega]; exact and_nat 2 4 3 (s / 4294967296) rfl rfl (by omega) (by omega)),
   (by rw [show (s : Int) / 17179869184 = ((s / 17179869184 : Nat) : Int) by omega]; exact and_nat 2 4 3 (s / 17179869184) rfl rfl (by omega) (by omega))⟩

/-- A sum's value. -/
abbrev vSm (s : Nat) : Value := .agg #[.int .u64 (nS s : Int), .int .u64 (vS s : Int), .int .u64 (oS s : Int), .int .u64 (aS s : Int)]
/-- A block of two numbers, beside trees. -/
def PB (W : World) (c : Nat) : Prop := ∃ a b, Blk W c 97 #[a, b]

end Go.Proofs.Ytaooglagddphnaa

/- Contracts of above, Size, Vertices, markBit, Marked. Printed by wip/tools/trpg.py. -/
namespace Go.Proofs.Ytaooglagddphnaa
open Go.RowKit

set_option maxRecDepth 100000

theorem nS_lt (s : Nat) : nS s < 65536 := Nat.mod_lt _ (by omega)
theorem vS_lt (s : Nat) : vS s < 65536 := Nat.mod_lt _ (by omega)
theorem aS_lt (s : Nat) : aS s < 4 := Nat.mod_lt _ (by omega)

/-- A mark's bit. -/
def bt (m : Nat) : Nat := if m = 0 then 1 else 2
def hasB (s m : Nat) : Bool := decide (s / 2 ^ m % 2 = 1)

end Go.Proofs.Ytaooglagddphnaa

/- Contract of reckon. Printed by wip/tools/trph.py. -/
namespace Go.Proofs.Ytaooglagddphnaa
open Go.RowKit

set_option maxRecDepth 100000

/-- Is a node a vertex? -/
def vxN (V : Int) (x : Nat) : Bool := !arcN V x
/-- Three values, one behind the other. -/
def tri (a b c : Nat) : Nat → Nat
  | 0 => a
  | 1 => b
  | _ => c
theorem sum_pack {n v o a : Nat} (hn : n < 281474976710656) (hv : v < 281474976710656) (ho : o < 4) (ha : a < 4) :
    bits .or .u64 (bits .or .u64 (bits .or .u64 (n : Int) ((v : Int) * 65536)) ((o : Int) * 4294967296)) ((a : Int) * 17179869184) = (packW n v o a : Int) := by
  rw [show (v : Int) * 65536 = ((v * 65536 : Nat) : Int) by omega, show (o : Int) * 4294967296 = ((o * 4294967296 : Nat) : Int) by omega, show (a : Int) * 17179869184 = ((a * 17179869184 : Nat) : Int) by omega]
  have h1 : n ||| v * 65536 < 18446744073709551616 := Nat.or_lt_two_pow (n := 64) (by omega) (by omega)
  have h2 : n ||| v * 65536 ||| o * 4294967296 < 18446744073709551616 := Nat.or_lt_two_pow (n := 64) h1 (by omega)
  rw [u64_or_nat _ _ (by omega) (by omega), u64_or_nat _ _ h1 (by omega), u64_or_nat _ _ h2 (by omega)]
  rfl


end Go.Proofs.Ytaooglagddphnaa

/- Contracts of hang and Alone. Printed by wip/tools/trpi.py. -/
namespace Go.Proofs.Ytaooglagddphnaa
open Go.RowKit

set_option maxRecDepth 100000

section
variable {V S T : Int} {g : Mg9} {w w' : World} {p gb cap m : Nat}
/-- A node alone. -/
def aloneG (vx : Nat → Bool) (g : Mg9) (x : Nat) : Mg9 := reckG vx (setP (up2 (up2 g x 3 0) x 4 0) x 0) x 0
end

end Go.Proofs.Ytaooglagddphnaa
