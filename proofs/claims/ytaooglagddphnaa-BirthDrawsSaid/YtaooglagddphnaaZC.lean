/- Trees of rows, plainly; the treap's small calls. -/
import Derived.Test.YtaooglagddphnaaRows
import Derived.Test.YtaooglagddphnaaZA
import Derived.Test.YtaooglagddphnaaZB

/- Trees of rows, plainly: a row's right tree, what its nodes' cells have, ways down and up, hanging, marks. -/
namespace Go.Proofs.Ytaooglagddphnaa

/-- A tree of nodes. -/
inductive Tp where
  | nil : Tp
  | node (l : Tp) (x : Nat) (r : Tp) : Tp
namespace Tp
def root : Tp → Nat
  | nil => 0
  | node _ x _ => x
def row : Tp → List Nat
  | nil => []
  | node l x r => l.row ++ x :: r.row
def size (t : Tp) : Nat := t.row.length
theorem row_nil : Tp.nil.row = [] := rfl
theorem row_node (l : Tp) (x : Nat) (r : Tp) : (Tp.node l x r).row = l.row ++ x :: r.row := rfl
theorem size_node (l : Tp) (x : Nat) (r : Tp) : (Tp.node l x r).size = l.size + 1 + r.size := by simp [size, row]; omega
theorem size_nil : Tp.nil.size = 0 := rfl
/-- A tree's root is of its row, or it is empty. -/
theorem root_mem : ∀ {t : Tp}, t.root ≠ 0 → t.root ∈ t.row
  | nil, h => absurd rfl h
  | node l x r, _ => by simp [root, row]
theorem root_nil {t : Tp} (h : ∀ x ∈ t.row, x ≠ 0) (h0 : t.root = 0) : t = nil := by
  cases t with
  | nil => rfl
  | node l x r => exact absurd h0 (h x (by simp [row]))
theorem row_eq_nil {t : Tp} (h : t.row = []) : t = nil := by
  cases t with
  | nil => rfl
  | node l x r => simp [row] at h
end Tp

/-- Is a node above another one? -/
def ab (pri : Nat → Nat) (x y : Nat) : Bool := decide (pri y < pri x ∨ (pri x = pri y ∧ x < y))
theorem ab_yes {pri : Nat → Nat} {x y : Nat} : ab pri x y = true ↔ (pri y < pri x ∨ (pri x = pri y ∧ x < y)) := by unfold ab; exact decide_eq_true_iff
theorem ab_trans {pri : Nat → Nat} {x y z : Nat} (h1 : ab pri x y = true) (h2 : ab pri y z = true) : ab pri x z = true := by rw [ab_yes] at *; omega
theorem ab_irr (pri : Nat → Nat) (x : Nat) : ab pri x x = false := by rw [Bool.eq_false_iff, Ne, ab_yes]; omega
theorem ab_asymm {pri : Nat → Nat} {x y : Nat} (h1 : ab pri x y = true) : ab pri y x = false := by rw [Bool.eq_false_iff, Ne, ab_yes]; rw [ab_yes] at h1; omega
theorem ab_total {pri : Nat → Nat} {x y : Nat} (h : x ≠ y) (h1 : ab pri x y = false) : ab pri y x = true := by rw [Bool.eq_false_iff, Ne, ab_yes] at h1; rw [ab_yes]; omega

/-- Each node is above all below it. -/
def Hp (pri : Nat → Nat) : Tp → Prop
  | .nil => True
  | .node l x r => (∀ y ∈ l.row, ab pri x y = true) ∧ (∀ y ∈ r.row, ab pri x y = true) ∧ Hp pri l ∧ Hp pri r

/-- How many of a row are vertices; the marks that any of them has. -/
def cntV (vx : Nat → Bool) (l : List Nat) : Nat := (l.filter vx).length
def allM (mk : Nat → Nat) : List Nat → Nat
  | [] => 0
  | x :: l => mk x ||| allM mk l
theorem cntV_app (vx : Nat → Bool) (a b : List Nat) : cntV vx (a ++ b) = cntV vx a + cntV vx b := by simp [cntV]
theorem cntV_cons (vx : Nat → Bool) (x : Nat) (b : List Nat) : cntV vx (x :: b) = (if vx x then 1 else 0) + cntV vx b := by
  unfold cntV; rw [List.filter_cons]; split <;> simp <;> omega
theorem cntV_le (vx : Nat → Bool) (a : List Nat) : cntV vx a ≤ a.length := List.length_filter_le _ _
theorem allM_app (mk : Nat → Nat) : ∀ (a b : List Nat), allM mk (a ++ b) = allM mk a ||| allM mk b
  | [], b => by simp [allM]
  | x :: a, b => by simp [allM, allM_app mk a b, Nat.or_assoc]
theorem or_lt4 {a b : Nat} (ha : a < 4) (hb : b < 4) : a ||| b < 4 := Nat.or_lt_two_pow (n := 2) ha hb
theorem allM_lt {mk : Nat → Nat} (h : ∀ x, mk x < 4) : ∀ (a : List Nat), allM mk a < 4
  | [] => by simp [allM]
  | x :: a => or_lt4 (h x) (allM_lt h a)
theorem allM_congr {mk mk' : Nat → Nat} : ∀ {a : List Nat}, (∀ x ∈ a, mk' x = mk x) → allM mk' a = allM mk a
  | [], _ => rfl
  | x :: a, h => by simp only [allM]; rw [h x (by simp), allM_congr fun y hy => h y (by simp [hy])]

/-- A sum's bits. -/
def sumW (n v o a : Nat) : Nat := n + 65536 * v + 4294967296 * o + 17179869184 * a
def nS (s : Nat) : Nat := s % 65536
def vS (s : Nat) : Nat := s / 65536 % 65536
def oS (s : Nat) : Nat := s / 4294967296 % 4
def aS (s : Nat) : Nat := s / 17179869184 % 4
theorem sumW_parts {n v o a : Nat} (h1 : n < 65536) (h2 : v < 65536) (h3 : o < 4) (h4 : a < 4) : nS (sumW n v o a) = n ∧ vS (sumW n v o a) = v ∧ oS (sumW n v o a) = o ∧ aS (sumW n v o a) = a := by
  unfold sumW nS vS oS aS; omega
theorem sumW_lt {n v o a : Nat} (h1 : n < 65536) (h2 : v < 65536) (h3 : o < 4) (h4 : a < 4) : sumW n v o a < 68719476736 := by unfold sumW; omega

/-- The bits as they are joined, whatever the parts. -/
def packW (n v o a : Nat) : Nat := n ||| v * 65536 ||| o * 4294967296 ||| a * 17179869184
theorem packW_sum {n v o a : Nat} (hn : n < 65536) (hv : v < 65536) (ho : o < 4) : packW n v o a = sumW n v o a := by
  have cm : ∀ i x y : Nat, y < 2 ^ i → y ||| (x * 2 ^ i) = x * 2 ^ i + y := fun i x y hy => by
    rw [Nat.or_comm, Nat.mul_comm x, ← Nat.two_pow_add_eq_or_of_lt hy]
  unfold packW
  rw [show v * 65536 = v * 2 ^ 16 from rfl, show o * 4294967296 = o * 2 ^ 32 from rfl, show a * 17179869184 = a * 2 ^ 34 from rfl, cm 16 v n hn, cm 32 o _ (by omega), cm 34 a _ (by omega)]
  unfold sumW; omega
theorem packW_lt {n v o a : Nat} (hn : n < 281474976710656) (hv : v < 281474976710656) (ho : o < 4) (ha : a < 4) : packW n v o a < 18446744073709551616 := by
  unfold packW
  refine Nat.or_lt_two_pow (n := 64) (Nat.or_lt_two_pow (n := 64) (Nat.or_lt_two_pow (n := 64) ?_ ?_) ?_) ?_ <;> omega

/-- The sum of a tree. -/
def sumT (vx : Nat → Bool) (mk : Nat → Nat) : Tp → Nat
  | .nil => 0
  | .node l x r => sumW (Tp.node l x r).row.length (cntV vx (Tp.node l x r).row) (mk x) (allM mk (Tp.node l x r).row)
theorem sumT_node (vx : Nat → Bool) (mk : Nat → Nat) (l : Tp) (x : Nat) (r : Tp) : sumT vx mk (.node l x r) = sumW (Tp.node l x r).row.length (cntV vx (Tp.node l x r).row) (mk x) (allM mk (Tp.node l x r).row) := rfl
theorem sumT_parts {vx : Nat → Bool} {mk : Nat → Nat} (hm : ∀ x, mk x < 4) (t : Tp) (h : t.size < 65536) :
    nS (sumT vx mk t) = t.size ∧ vS (sumT vx mk t) = cntV vx t.row ∧ aS (sumT vx mk t) = allM mk t.row := by
  cases t with
  | nil => refine ⟨?_, ?_, ?_⟩ <;> simp [nS, vS, aS, sumT, Tp.size, Tp.row, cntV, allM]
  | node l x r =>
    have h1 := sumW_parts (n := (Tp.node l x r).row.length) (v := cntV vx (Tp.node l x r).row) (o := mk x) (a := allM mk (Tp.node l x r).row) h (Nat.lt_of_le_of_lt (cntV_le _ _) h) (hm x) (allM_lt hm _)
    exact ⟨h1.1, h1.2.1, h1.2.2.2⟩
theorem sumT_own {vx : Nat → Bool} {mk : Nat → Nat} (hm : ∀ x, mk x < 4) {l r : Tp} {x : Nat} (h : (Tp.node l x r).size < 65536) : oS (sumT vx mk (.node l x r)) = mk x :=
  (sumW_parts (n := (Tp.node l x r).row.length) (v := cntV vx (Tp.node l x r).row) (o := mk x) (a := allM mk (Tp.node l x r).row) h (Nat.lt_of_le_of_lt (cntV_le _ _) h) (hm x) (allM_lt hm _)).2.2.1
theorem sumT_lt {vx : Nat → Bool} {mk : Nat → Nat} (hm : ∀ x, mk x < 4) {t : Tp} (h : t.size < 65536) : sumT vx mk t < 68719476736 := by
  cases t with
  | nil => exact (by decide : (0 : Nat) < 68719476736)
  | node l x r => exact sumW_lt h (Nat.lt_of_le_of_lt (cntV_le _ _) h) (hm x) (allM_lt hm _)
theorem sumT_congr {vx : Nat → Bool} {mk mk' : Nat → Nat} {t : Tp} (h : ∀ x ∈ t.row, mk' x = mk x) : sumT vx mk' t = sumT vx mk t := by
  cases t with
  | nil => rfl
  | node l x r => rw [sumT_node, sumT_node, h x (by simp [Tp.row]), allM_congr h]

/-- What a node's field has: 2: its parent, 3: left, 4: right, 5: its priority, 6: its sum. -/
abbrev Mg9 := Nat → Nat → Nat
def up2 (g : Mg9) (x k v : Nat) : Mg9 := fun y j => if y = x ∧ j = k then v else g y j
theorem up2_same (g : Mg9) (x k v : Nat) : up2 g x k v x k = v := if_pos ⟨rfl, rfl⟩
theorem up2_node (g : Mg9) {x y : Nat} (k v j : Nat) (h : y ≠ x) : up2 g x k v y j = g y j := if_neg fun e => h e.1
theorem up2_field (g : Mg9) {k j : Nat} (x y v : Nat) (h : j ≠ k) : up2 g x k v y j = g y j := if_neg fun e => h e.2

/-- The cells of all nodes of a tree are right, but for its root's parent. -/
def Loose (vx : Nat → Bool) (mk : Nat → Nat) (g : Mg9) : Tp → Prop
  | .nil => True
  | .node l x r => g x 3 = l.root ∧ g x 4 = r.root ∧ g x 6 = sumT vx mk (.node l x r) ∧ (l.root ≠ 0 → g l.root 2 = x) ∧ (r.root ≠ 0 → g r.root 2 = x) ∧ Loose vx mk g l ∧ Loose vx mk g r
/-- A tree stands right in memory. -/
def Stands (vx : Nat → Bool) (mk : Nat → Nat) (g : Mg9) (t : Tp) : Prop := Loose vx mk g t ∧ (t.root ≠ 0 → g t.root 2 = 0)

theorem Loose.congr {vx : Nat → Bool} {mk mk' : Nat → Nat} {g g' : Mg9} : ∀ {t : Tp}, Loose vx mk g t → (∀ x ∈ t.row, mk' x = mk x ∧ g' x 3 = g x 3 ∧ g' x 4 = g x 4 ∧ g' x 6 = g x 6) → t.row.Nodup → (∀ x ∈ t.row, x ≠ t.root → g' x 2 = g x 2) → Loose vx mk' g' t
  | .nil, _, _, _, _ => trivial
  | .node l x r, h, h1, hn, h2 => by
    obtain ⟨a, b, c, d, e, hl, hr⟩ := h
    have hx := h1 x (by simp [Tp.row])
    rw [Tp.row_node, List.nodup_append] at hn
    obtain ⟨nl, nr, nd⟩ := hn
    rw [List.nodup_cons] at nr
    have lx : ∀ y ∈ l.row, y ≠ x := fun y hy => nd y hy x (by simp)
    have rx : ∀ y ∈ r.row, y ≠ x := fun y hy e => nr.1 (e ▸ hy)
    refine ⟨hx.2.1.trans a, hx.2.2.1.trans b, ?_, fun h0 => ?_, fun h0 => ?_, Loose.congr hl (fun y hy => h1 y (by simp [Tp.row, hy])) nl fun y hy _ => h2 y (by simp [Tp.row, hy]) (lx y hy), Loose.congr hr (fun y hy => h1 y (by simp [Tp.row, hy])) nr.2 fun y hy _ => h2 y (by simp [Tp.row, hy]) (rx y hy)⟩
    · rw [hx.2.2.2, c, sumT_congr fun y hy => (h1 y hy).1]
    · rw [h2 _ (by simp [Tp.row, Tp.root_mem h0]) (lx _ (Tp.root_mem h0))]; exact d h0
    · rw [h2 _ (by simp [Tp.row, Tp.root_mem h0]) (rx _ (Tp.root_mem h0))]; exact e h0
/-- Where nothing of a tree's nodes turned. -/
theorem Loose.same {vx : Nat → Bool} {mk : Nat → Nat} {g g' : Mg9} {t : Tp} (h : Loose vx mk g t) (hn : t.row.Nodup) (h1 : ∀ x ∈ t.row, ∀ k, g' x k = g x k) : Loose vx mk g' t :=
  h.congr (fun x hx => ⟨rfl, h1 x hx 3, h1 x hx 4, h1 x hx 6⟩) hn fun x hx _ => h1 x hx 2
theorem Stands.same {vx : Nat → Bool} {mk : Nat → Nat} {g g' : Mg9} {t : Tp} (h : Stands vx mk g t) (hn : t.row.Nodup) (h1 : ∀ x ∈ t.row, ∀ k, g' x k = g x k) : Stands vx mk g' t :=
  ⟨h.1.same hn h1, fun h0 => (h1 _ (Tp.root_mem h0) 2).trans (h.2 h0)⟩
/-- What is at a tree's root. -/
theorem Loose.sum {vx : Nat → Bool} {mk : Nat → Nat} {g : Mg9} (h0 : ∀ k, g 0 k = 0) {t : Tp} (h : Loose vx mk g t) : g t.root 6 = sumT vx mk t := by
  cases t with
  | nil => exact h0 6
  | node l x r => exact h.2.2.1

/-- A sum that is reckoned anew. -/
def reckG (vx : Nat → Bool) (g : Mg9) (x own : Nat) : Mg9 :=
  up2 g x 6 (packW (1 + nS (g (g x 3) 6) + nS (g (g x 4) 6)) ((if vx x then 1 else 0) + vS (g (g x 3) 6) + vS (g (g x 4) 6)) own (own ||| aS (g (g x 3) 6) ||| aS (g (g x 4) 6)))
theorem reckG_other (vx : Nat → Bool) (g : Mg9) {x y : Nat} (own k : Nat) (h : y ≠ x) : reckG vx g x own y k = g y k := up2_node _ _ _ _ h
theorem reckG_field (vx : Nat → Bool) (g : Mg9) {k : Nat} (x y own : Nat) (h : k ≠ 6) : reckG vx g x own y k = g y k := up2_field _ _ _ _ h

/-- A tree whose root alone has no right sum. -/
theorem reck_loose {vx : Nat → Bool} {mk : Nat → Nat} (hm : ∀ x, mk x < 4) {g : Mg9} (h0 : ∀ k, g 0 k = 0) {l r : Tp} {x : Nat} (hn : (Tp.node l x r).row.Nodup) (hz : (Tp.node l x r).size < 65536)
    (a : g x 3 = l.root) (b : g x 4 = r.root) (c : l.root ≠ 0 → g l.root 2 = x) (d : r.root ≠ 0 → g r.root 2 = x) (hl : Loose vx mk g l) (hr : Loose vx mk g r) : Loose vx mk (reckG vx g x (mk x)) (.node l x r) := by
  have hn' := hn
  rw [Tp.row_node, List.nodup_append] at hn
  obtain ⟨nl, nr, nd⟩ := hn
  rw [List.nodup_cons] at nr
  have lx : ∀ y ∈ l.row, y ≠ x := fun y hy => nd y hy x (by simp)
  have rx : ∀ y ∈ r.row, y ≠ x := fun y hy e => nr.1 (e ▸ hy)
  rw [Tp.size_node] at hz
  have pl := sumT_parts (vx := vx) hm l (by omega)
  have pr := sumT_parts (vx := vx) hm r (by omega)
  refine ⟨(reckG_field _ _ _ _ _ (by decide)).trans a, (reckG_field _ _ _ _ _ (by decide)).trans b, ?_, fun h => (reckG_field _ _ _ _ _ (by decide)).trans (c h), fun h => (reckG_field _ _ _ _ _ (by decide)).trans (d h), hl.same nl fun y hy k => reckG_other _ _ _ _ (lx y hy), hr.same nr.2 fun y hy k => reckG_other _ _ _ _ (rx y hy)⟩
  have cl := cntV_le vx l.row
  have cr := cntV_le vx r.row
  have zl : l.size = l.row.length := rfl
  have zr : r.size = r.row.length := rfl
  have c1 : (if vx x = true then 1 else 0) ≤ 1 := by split <;> omega
  unfold reckG
  rw [up2_same, a, b, hl.sum h0, hr.sum h0, pl.1, pl.2.1, pl.2.2, pr.1, pr.2.1, pr.2.2, packW_sum (by omega) (by omega) (hm x)]
  rw [sumT_node, Tp.row_node, cntV_app, cntV_cons, allM_app]
  have e1 : (l.row ++ x :: r.row).length = 1 + l.size + r.size := by simp [Tp.size]; omega
  have e2 : allM mk l.row ||| allM mk (x :: r.row) = mk x ||| allM mk l.row ||| allM mk r.row := by simp only [allM]; rw [← Nat.or_assoc, Nat.or_comm (allM mk l.row)]
  rw [e1, e2]
  congr 1
  omega

/-- A tree is hung on a side of a node, whose sum is reckoned then. -/
def setP (g : Mg9) (x p : Nat) : Mg9 := if x = 0 then g else up2 g x 2 p
theorem setP_field (g : Mg9) {k : Nat} (x p y : Nat) (h : k ≠ 2) : setP g x p y k = g y k := by unfold setP; split; rfl; exact up2_field _ _ _ _ h
theorem setP_other (g : Mg9) {x y : Nat} (p k : Nat) (h : y ≠ x) : setP g x p y k = g y k := by unfold setP; split; rfl; exact up2_node _ _ _ _ h
theorem setP_same (g : Mg9) {x : Nat} (p : Nat) (h : x ≠ 0) : setP g x p x 2 = p := by unfold setP; rw [if_neg h]; exact up2_same _ _ _ _
def hangG (vx : Nat → Bool) (g : Mg9) (x : Nat) (rt : Bool) (c : Nat) : Mg9 :=
  reckG vx (setP (up2 g x (if rt then 4 else 3) c) c x) x (oS (g x 6))
theorem hangG_other (vx : Nat → Bool) (g : Mg9) {x y : Nat} (rt : Bool) {c : Nat} (k : Nat) (h1 : y ≠ x) (h2 : y ≠ c) : hangG vx g x rt c y k = g y k := by
  unfold hangG; rw [reckG_other _ _ _ _ h1, setP_other _ _ _ h2, up2_node _ _ _ _ h1]
theorem hangG_pri (vx : Nat → Bool) (g : Mg9) (x : Nat) (rt : Bool) (c y : Nat) : hangG vx g x rt c y 5 = g y 5 := by
  unfold hangG; rw [reckG_field _ _ _ _ _ (by decide), setP_field _ _ _ _ (by decide), up2_field _ _ _ _ (by cases rt <;> decide)]
theorem hangG_zero (vx : Nat → Bool) {g : Mg9} (h0 : ∀ k, g 0 k = 0) {x : Nat} (rt : Bool) (c : Nat) (hx : x ≠ 0) (k : Nat) : hangG vx g x rt c 0 k = 0 := by
  unfold hangG; rw [reckG_other _ _ _ _ (Ne.symm hx)]
  by_cases hc : c = 0
  · subst hc; unfold setP; rw [if_pos rfl, up2_node _ _ _ _ (Ne.symm hx)]; exact h0 k
  · rw [setP_other _ _ _ (Ne.symm hc), up2_node _ _ _ _ (Ne.symm hx)]; exact h0 k

/-- A step of a way down: the node, whether the way goes on to the right, and what stands on the other side. -/
structure Fr where
  x : Nat
  rt : Bool
  o : Tp
def Fr.join (f : Fr) (t : Tp) : Tp := if f.rt then .node f.o f.x t else .node t f.x f.o
theorem Fr.join_root (f : Fr) (t : Tp) : (f.join t).root = f.x := by unfold Fr.join; split <;> rfl
theorem Fr.join_mem {f : Fr} {t : Tp} {y : Nat} : y ∈ (f.join t).row ↔ y = f.x ∨ y ∈ f.o.row ∨ y ∈ t.row := by
  unfold Fr.join; split <;> simp [Tp.row] <;> constructor <;> intro h <;> rcases h with h | h | h <;> simp [h]
theorem Fr.join_size (f : Fr) (t : Tp) : (f.join t).size = f.o.size + 1 + t.size := by unfold Fr.join; split <;> rw [Tp.size_node] <;> omega
theorem Fr.join_nodup {f : Fr} {t : Tp} (h : (f.join t).row.Nodup) : f.o.row.Nodup ∧ t.row.Nodup ∧ f.x ∉ f.o.row ∧ f.x ∉ t.row ∧ ∀ y ∈ t.row, y ∉ f.o.row := by
  unfold Fr.join at h
  split at h
  · rw [Tp.row_node, List.nodup_append] at h
    obtain ⟨a, b, c⟩ := h
    rw [List.nodup_cons] at b
    exact ⟨a, b.2, fun h => c _ h _ (by simp) rfl, b.1, fun y hy hy' => c y hy' y (by simp [hy]) rfl⟩
  · rw [Tp.row_node, List.nodup_append] at h
    obtain ⟨a, b, c⟩ := h
    rw [List.nodup_cons] at b
    exact ⟨b.2, a, b.1, fun h => c _ h _ (by simp) rfl, fun y hy hy' => c y hy y (by simp [hy']) rfl⟩
/-- What a node on a way has beside the way is right. -/
structure FrOk (vx : Nat → Bool) (mk : Nat → Nat) (g : Mg9) (f : Fr) : Prop where
  nz : f.x ≠ 0
  side : g f.x (if f.rt then 3 else 4) = f.o.root
  par : f.o.root ≠ 0 → g f.o.root 2 = f.x
  own : oS (g f.x 6) = mk f.x
  o : Loose vx mk g f.o
theorem Loose.frame {vx : Nat → Bool} {mk : Nat → Nat} (hm : ∀ x, mk x < 4) {g : Mg9} {f : Fr} {t : Tp} (h : Loose vx mk g (f.join t)) (hz : (f.join t).size < 65536) (hx : f.x ≠ 0) :
    FrOk vx mk g f ∧ Loose vx mk g t ∧ g f.x (if f.rt then 4 else 3) = t.root ∧ (t.root ≠ 0 → g t.root 2 = f.x) := by
  obtain ⟨x, rt, o⟩ := f
  cases rt with
  | true =>
    obtain ⟨a, b, c, d, e, hl, hr⟩ := h
    exact ⟨⟨hx, a, d, by rw [c]; exact sumT_own hm hz, hl⟩, hr, b, e⟩
  | false =>
    obtain ⟨a, b, c, d, e, hl, hr⟩ := h
    exact ⟨⟨hx, b, e, by rw [c]; exact sumT_own hm hz, hr⟩, hl, a, d⟩
theorem FrOk.same {vx : Nat → Bool} {mk : Nat → Nat} {g g' : Mg9} {f : Fr} (h : FrOk vx mk g f) (hn : f.o.row.Nodup) (h1 : ∀ k, g' f.x k = g f.x k) (h2 : ∀ y ∈ f.o.row, ∀ k, g' y k = g y k) : FrOk vx mk g' f :=
  ⟨h.nz, by rw [h1]; exact h.side, fun h0 => by rw [h2 _ (Tp.root_mem h0)]; exact h.par h0, by rw [h1]; exact h.own, h.o.same hn h2⟩

/-- What is hung on a node's side makes the tree. -/
theorem hang_loose {vx : Nat → Bool} {mk : Nat → Nat} (hm : ∀ x, mk x < 4) {g : Mg9} (h0 : ∀ k, g 0 k = 0) {f : Fr} {t : Tp} (hn : (f.join t).row.Nodup) (hp : ∀ y ∈ (f.join t).row, y ≠ 0) (hz : (f.join t).size < 65536) (hf : FrOk vx mk g f) (ht : Loose vx mk g t) :
    Loose vx mk (hangG vx g f.x f.rt t.root) (f.join t) := by
  obtain ⟨no, nt, xo, xt, dj⟩ := Fr.join_nodup hn
  have tx : t.root ≠ 0 → t.root ≠ f.x := fun h e => xt (e ▸ Tp.root_mem h)
  have ot : ∀ y ∈ f.o.row, y ≠ t.root := fun y hy e => by
    by_cases h : t.root = 0
    · exact hp y (Fr.join_mem.2 (.inr (.inl hy))) (e.trans h)
    · exact dj _ (Tp.root_mem h) (e ▸ hy)
  have ox : ∀ y ∈ f.o.row, y ≠ f.x := fun y hy e => xo (e ▸ hy)
  have txn : ∀ y ∈ t.row, y ≠ f.x := fun y hy e => xt (e ▸ hy)
  -- the state ahead of the sum
  obtain ⟨G, hG⟩ : ∃ G, setP (up2 g f.x (if f.rt then 4 else 3) t.root) t.root f.x = G := ⟨_, rfl⟩
  have g0 : ∀ k, G 0 k = 0 := fun k => by
    rw [← hG]
    by_cases hc : t.root = 0
    · unfold setP; rw [if_pos hc, up2_node _ _ _ _ (Ne.symm hf.nz)]; exact h0 k
    · rw [setP_other _ _ _ (Ne.symm hc), up2_node _ _ _ _ (Ne.symm hf.nz)]; exact h0 k
  have gx : ∀ k, k ≠ (if f.rt then 4 else 3) → G f.x k = g f.x k := fun k hk => by
    rw [← hG]
    by_cases hc : t.root = 0
    · unfold setP; rw [if_pos hc, up2_field _ _ _ _ hk]
    · rw [setP_other _ _ _ (Ne.symm (tx hc)), up2_field _ _ _ _ hk]
  have gs : G f.x (if f.rt then 4 else 3) = t.root := by
    rw [← hG, setP_field _ _ _ _ (by split <;> decide), up2_same]
  have go : ∀ y ∈ f.o.row, ∀ k, G y k = g y k := fun y hy k => by
    rw [← hG, setP_other _ _ _ (ot y hy), up2_node _ _ _ _ (ox y hy)]
  have gt : ∀ y ∈ t.row, ∀ k, k ≠ 2 → G y k = g y k := fun y hy k hk => by
    rw [← hG, setP_field _ _ _ _ hk, up2_node _ _ _ _ (txn y hy)]
  have gt2 : ∀ y ∈ t.row, y ≠ t.root → G y 2 = g y 2 := fun y hy hk => by
    rw [← hG, setP_other _ _ _ hk, up2_node _ _ _ _ (txn y hy)]
  have gp : t.root ≠ 0 → G t.root 2 = f.x := fun h => by rw [← hG, setP_same _ _ h]
  have Lo : Loose vx mk G f.o := hf.o.same no go
  have Lt : Loose vx mk G t := ht.congr (fun y hy => ⟨rfl, gt y hy 3 (by decide), gt y hy 4 (by decide), gt y hy 6 (by decide)⟩) nt gt2
  have po : f.o.root ≠ 0 → G f.o.root 2 = f.x := fun h => (go _ (Tp.root_mem h) 2).trans (hf.par h)
  unfold hangG
  rw [hG, hf.own]
  obtain ⟨x, rt, o⟩ := f
  cases rt with
  | true => exact reck_loose hm g0 hn hz ((gx 3 (by simp)).trans hf.side) gs po gp Lo Lt
  | false => exact reck_loose hm g0 hn hz gs ((gx 4 (by simp)).trans hf.side) gp po Lt Lo

end Go.Proofs.Ytaooglagddphnaa

/- Ways down and up in trees, plainly: splitting, merging, marking, places. -/
namespace Go.Proofs.Ytaooglagddphnaa

/-- What hangs at the end of a way down. -/
def plug : List Fr → Tp → Tp
  | [], t => t
  | f :: fs, t => f.join (plug fs t)
theorem plug_snoc : ∀ (fs : List Fr) (f : Fr) (t : Tp), plug (fs ++ [f]) t = plug fs (f.join t)
  | [], _, _ => rfl
  | g :: fs, f, t => by simp only [List.cons_append, plug, plug_snoc fs f t]
theorem plug_app : ∀ (fs gs : List Fr) (t : Tp), plug (fs ++ gs) t = plug fs (plug gs t)
  | [], _, _ => rfl
  | g :: fs, gs, t => by simp only [List.cons_append, plug, plug_app fs gs t]
theorem plug_size : ∀ (fs : List Fr) (t : Tp), fs.length + t.size ≤ (plug fs t).size
  | [], t => by simp [plug]
  | f :: fs, t => by have := plug_size fs t; simp only [plug, Fr.join_size, List.length_cons]; omega
theorem plug_mem : ∀ {fs : List Fr} {t : Tp} {y : Nat}, y ∈ t.row → y ∈ (plug fs t).row
  | [], _, _, h => h
  | _ :: _, _, _, h => Fr.join_mem.2 (.inr (.inr (plug_mem h)))
theorem plug_fr : ∀ {fs : List Fr} {t : Tp} {f : Fr}, f ∈ fs → f.x ∈ (plug fs t).row
  | [], _, _, h => by simp at h
  | g :: fs, t, f, h => by
    rcases List.mem_cons.1 h with rfl | h
    · exact Fr.join_mem.2 (.inl rfl)
    · exact Fr.join_mem.2 (.inr (.inr (plug_fr h)))

/-- A way to a place in the row. -/
def wayT : Int → Tp → List Fr
  | _, .nil => []
  | k, .node l x r => if k > (l.size : Int) then ⟨x, true, l⟩ :: wayT (k - (l.size + 1)) r else ⟨x, false, r⟩ :: wayT k l
theorem wayT_plug : ∀ (k : Int) (t : Tp), plug (wayT k t) .nil = t
  | _, .nil => rfl
  | k, .node l x r => by
    unfold wayT
    split
    · simp only [plug, wayT_plug _ r]; rfl
    · simp only [plug, wayT_plug _ l]; rfl

/-- The two trees on both sides of a way. -/
def splitZ : List Fr → Tp × Tp
  | [] => (.nil, .nil)
  | f :: fs => if f.rt then (f.join (splitZ fs).1, (splitZ fs).2) else ((splitZ fs).1, f.join (splitZ fs).2)
theorem splitZ_row : ∀ (fs : List Fr), (splitZ fs).1.row ++ (splitZ fs).2.row = (plug fs .nil).row
  | [] => rfl
  | ⟨x, true, o⟩ :: fs => by have := splitZ_row fs; simp only [splitZ, plug, Fr.join, if_true, Tp.row_node]; rw [← this]; simp
  | ⟨x, false, o⟩ :: fs => by have := splitZ_row fs; simp only [splitZ, plug, Fr.join, Bool.false_eq_true, if_false, Tp.row_node]; rw [← this]; simp
theorem splitZ_first : ∀ (k : Int) (t : Tp), (splitZ (wayT k t)).1.size = min k.toNat t.size
  | _, .nil => by simp [wayT, splitZ, Tp.size_nil]
  | k, .node l x r => by
    unfold wayT
    split
    · have := splitZ_first (k - (l.size + 1)) r
      simp only [splitZ, if_true, Fr.join_size, Tp.size_node, this]; omega
    · have := splitZ_first k l
      simp only [splitZ, Bool.false_eq_true, if_false, Tp.size_node, this]; omega
theorem splitZ_rows (k : Int) (t : Tp) : (splitZ (wayT k t)).1.row = t.row.take (min k.toNat t.size) ∧ (splitZ (wayT k t)).2.row = t.row.drop (min k.toNat t.size) := by
  have h1 := splitZ_row (wayT k t)
  rw [wayT_plug] at h1
  have h2 := splitZ_first k t
  rw [← h2, ← h1]
  simp [Tp.size]
theorem splitZ_mem1 {fs : List Fr} {y : Nat} (h : y ∈ (splitZ fs).1.row) : y ∈ (plug fs .nil).row := by rw [← splitZ_row]; exact List.mem_append_left _ h
theorem splitZ_mem2 {fs : List Fr} {y : Nat} (h : y ∈ (splitZ fs).2.row) : y ∈ (plug fs .nil).row := by rw [← splitZ_row]; exact List.mem_append_right _ h
theorem Hp.join {pri : Nat → Nat} {f : Fr} {t : Tp} : Hp pri (f.join t) ↔ (∀ y ∈ f.o.row, ab pri f.x y = true) ∧ (∀ y ∈ t.row, ab pri f.x y = true) ∧ Hp pri f.o ∧ Hp pri t := by
  unfold Fr.join
  split
  · exact Iff.rfl
  · simp only [Hp]; constructor <;> rintro ⟨a, b, c, d⟩ <;> exact ⟨b, a, d, c⟩
theorem splitZ_hp {pri : Nat → Nat} : ∀ {fs : List Fr}, Hp pri (plug fs .nil) → Hp pri (splitZ fs).1 ∧ Hp pri (splitZ fs).2
  | [], _ => ⟨trivial, trivial⟩
  | f :: fs, h => by
    obtain ⟨a, b, c, d⟩ := Hp.join.1 h
    have ih := splitZ_hp d
    simp only [splitZ]
    split
    · exact ⟨Hp.join.2 ⟨a, fun y hy => b y (splitZ_mem1 hy), c, ih.1⟩, ih.2⟩
    · exact ⟨ih.1, Hp.join.2 ⟨a, fun y hy => b y (splitZ_mem2 hy), c, ih.2⟩⟩

/-- Two rows' trees: the way between them, and what is below its end. -/
inductive Mrg (pri : Nat → Nat) : Tp → Tp → List Fr → Tp → Prop where
  | nl (b : Tp) : Mrg pri .nil b [] b
  | nr (a : Tp) : Mrg pri a .nil [] a
  | a {al ar bl br : Tp} {x y : Nat} {fs : List Fr} {t : Tp} : ab pri x y = true → Mrg pri ar (.node bl y br) fs t → Mrg pri (.node al x ar) (.node bl y br) (⟨x, true, al⟩ :: fs) t
  | b {al ar bl br : Tp} {x y : Nat} {fs : List Fr} {t : Tp} : ab pri x y = false → Mrg pri (.node al x ar) bl fs t → Mrg pri (.node al x ar) (.node bl y br) (⟨y, false, br⟩ :: fs) t
theorem Mrg.row {pri : Nat → Nat} {a b : Tp} {fs : List Fr} {t : Tp} (h : Mrg pri a b fs t) : (plug fs t).row = a.row ++ b.row := by
  induction h with
  | nl b => rfl
  | nr a => simp [plug, Tp.row]
  | a _ _ ih => simp only [plug, Fr.join, if_true, Tp.row_node, ih]; simp
  | b _ _ ih => simp only [plug, Fr.join, Bool.false_eq_true, if_false, Tp.row_node, ih]; simp
theorem Mrg.hp {pri : Nat → Nat} {a b : Tp} {fs : List Fr} {t : Tp} (h : Mrg pri a b fs t) : Hp pri a → Hp pri b → (∀ x ∈ a.row, x ∉ b.row) → Hp pri (plug fs t) := by
  induction h with
  | nl b => exact fun _ h _ => h
  | nr a => exact fun h _ _ => h
  | @a al ar bl br x y fs t h1 hr ih =>
    intro ha hb hd
    obtain ⟨a1, a2, a3, a4⟩ := ha
    refine Hp.join.2 ⟨a1, fun z hz => ?_, a3, ih a4 hb fun z hz => hd z (by simp [Tp.row, hz])⟩
    rw [hr.row] at hz
    rcases List.mem_append.1 hz with hz | hz
    · exact a2 z hz
    · rw [Tp.row_node] at hz
      rcases List.mem_append.1 hz with hz | hz
      · exact ab_trans h1 (hb.1 z hz)
      · rcases List.mem_cons.1 hz with rfl | hz
        · exact h1
        · exact ab_trans h1 (hb.2.1 z hz)
  | @b al ar bl br x y fs t h1 hr ih =>
    intro ha hb hd
    have h2 : ab pri y x = true := ab_total (fun e => hd x (by simp [Tp.row]) (by simp [Tp.row, e])) h1
    obtain ⟨b1, b2, b3, b4⟩ := hb
    refine Hp.join.2 ⟨b2, fun z hz => ?_, b4, ih ha b3 fun z hz hz' => hd z hz (by simp [Tp.row, hz'])⟩
    rw [hr.row] at hz
    rcases List.mem_append.1 hz with hz | hz
    · rw [Tp.row_node] at hz
      rcases List.mem_append.1 hz with hz | hz
      · exact ab_trans h2 (ha.1 z hz)
      · rcases List.mem_cons.1 hz with rfl | hz
        · exact h2
        · exact ab_trans h2 (ha.2.1 z hz)
    · exact b1 z hz
/-- Of a way between two trees all nodes are as they are to be beside it. -/
theorem Mrg.frames {pri : Nat → Nat} {vx : Nat → Bool} {mk : Nat → Nat} (hm : ∀ x, mk x < 4) {g : Mg9} {a b : Tp} {fs : List Fr} {t : Tp} (h : Mrg pri a b fs t) :
    Loose vx mk g a → Loose vx mk g b → a.size < 65536 → b.size < 65536 → (∀ x ∈ a.row, x ≠ 0) → (∀ x ∈ b.row, x ≠ 0) → (∀ f ∈ fs, FrOk vx mk g f) ∧ Loose vx mk g t := by
  induction h with
  | nl b => exact fun _ h _ _ _ _ => ⟨by simp, h⟩
  | nr a => exact fun h _ _ _ _ _ => ⟨by simp, h⟩
  | @a al ar bl br x y fs t _ _ ih =>
    intro ha hb sa sb za zb
    have h1 := Loose.frame (f := ⟨x, true, al⟩) (t := ar) hm ha sa (za x (by simp [Tp.row]))
    rw [Tp.size_node] at sa
    have h2 := ih h1.2.1 hb (by omega) sb (fun z hz => za z (by simp [Tp.row, hz])) zb
    exact ⟨fun f hf => by rcases List.mem_cons.1 hf with rfl | hf; exact h1.1; exact h2.1 f hf, h2.2⟩
  | @b al ar bl br x y fs t _ _ ih =>
    intro ha hb sa sb za zb
    have h1 := Loose.frame (f := ⟨y, false, br⟩) (t := bl) hm hb sb (zb y (by simp [Tp.row]))
    rw [Tp.size_node] at sb
    have h2 := ih ha h1.2.1 sa (by omega) za (fun z hz => zb z (by simp [Tp.row, hz]))
    exact ⟨fun f hf => by rcases List.mem_cons.1 hf with rfl | hf; exact h1.1; exact h2.1 f hf, h2.2⟩
/-- .. and of a way down in one tree. -/
theorem plug_frames {vx : Nat → Bool} {mk : Nat → Nat} (hm : ∀ x, mk x < 4) {g : Mg9} : ∀ {fs : List Fr} {t : Tp}, Loose vx mk g (plug fs t) → (plug fs t).size < 65536 → (∀ x ∈ (plug fs t).row, x ≠ 0) → (∀ f ∈ fs, FrOk vx mk g f) ∧ Loose vx mk g t
  | [], t, h, _, _ => ⟨by simp, h⟩
  | f :: fs, t, h, hz, hp => by
    have h1 := Loose.frame hm h hz (hp f.x (Fr.join_mem.2 (.inl rfl)))
    simp only [plug] at hz hp
    rw [Fr.join_size] at hz
    have h2 := plug_frames hm h1.2.1 (by omega) fun x hx => hp x (Fr.join_mem.2 (.inr (.inr hx)))
    exact ⟨fun f' hf => by rcases List.mem_cons.1 hf with rfl | hf; exact h1.1; exact h2.1 f' hf, h2.2⟩
theorem plug_nodup : ∀ {fs : List Fr} {t : Tp}, (plug fs t).row.Nodup → t.row.Nodup
  | [], _, h => h
  | _ :: _, _, h => plug_nodup (Fr.join_nodup h).2.1

/-- What hanging one tree after the other behind a way upward does (a merge). -/
structure MStep (vx : Nat → Bool) (mk : Nat → Nat) (g g1 : Mg9) (t : Tp) : Prop where
  l : Loose vx mk g1 t
  z : ∀ k, g1 0 k = 0
  o : ∀ y, y ∉ t.row → ∀ k, g1 y k = g y k
  p : ∀ y, g1 y 5 = g y 5
theorem MStep.refl {vx : Nat → Bool} {mk : Nat → Nat} {g : Mg9} {t : Tp} (h : Loose vx mk g t) (h0 : ∀ k, g 0 k = 0) : MStep vx mk g g t := ⟨h, h0, fun _ _ _ => rfl, fun _ => rfl⟩
theorem MStep.next {vx : Nat → Bool} {mk : Nat → Nat} (hm : ∀ x, mk x < 4) {g g1 : Mg9} {f : Fr} {t : Tp} (h : MStep vx mk g g1 t) (hf : FrOk vx mk g f) (hn : (f.join t).row.Nodup) (hp : ∀ y ∈ (f.join t).row, y ≠ 0) (hz : (f.join t).size < 65536) :
    MStep vx mk g (hangG vx g1 f.x f.rt t.root) (f.join t) := by
  obtain ⟨no, nt, xo, xt, dj⟩ := Fr.join_nodup hn
  have hf1 : FrOk vx mk g1 f := hf.same no (h.o _ xt) fun y hy => h.o y fun e => dj y e hy
  refine ⟨hang_loose hm h.z hn hp hz hf1 h.l, hangG_zero _ h.z _ _ hf.nz, fun y hy k => ?_, fun y => (hangG_pri _ _ _ _ _ _).trans (h.p y)⟩
  rw [Fr.join_mem, not_or, not_or] at hy
  by_cases hr : t.root = 0
  · by_cases y0 : y = 0
    · subst y0; have e0 := h.o 0 hy.2.2 k; rw [h.z] at e0; exact (hangG_zero _ h.z _ _ hf.nz k).trans e0
    · rw [hangG_other _ _ _ _ hy.1 (by omega)]; exact h.o y hy.2.2 k
  · rw [hangG_other _ _ _ _ hy.1 fun e => hy.2.2 (e ▸ Tp.root_mem hr)]; exact h.o y hy.2.2 k

/-- .. and of two trees at once (a split). -/
structure SStep (vx : Nat → Bool) (mk : Nat → Nat) (g g1 : Mg9) (t a b : Tp) : Prop where
  la : Loose vx mk g1 a
  lb : Loose vx mk g1 b
  z : ∀ k, g1 0 k = 0
  o : ∀ y, y ∉ t.row → ∀ k, g1 y k = g y k
  p : ∀ y, g1 y 5 = g y 5
theorem SStep.next {vx : Nat → Bool} {mk : Nat → Nat} (hm : ∀ x, mk x < 4) {g g1 : Mg9} {f : Fr} {fs : List Fr} (h : SStep vx mk g g1 (plug fs .nil) (splitZ fs).1 (splitZ fs).2) (hf : FrOk vx mk g f)
    (hn : (plug (f :: fs) .nil).row.Nodup) (hp : ∀ y ∈ (plug (f :: fs) .nil).row, y ≠ 0) (hz : (plug (f :: fs) .nil).size < 65536) :
    SStep vx mk g (hangG vx g1 f.x f.rt (if f.rt then (splitZ fs).1.root else (splitZ fs).2.root)) (plug (f :: fs) .nil) (splitZ (f :: fs)).1 (splitZ (f :: fs)).2 := by
  obtain ⟨no, nt, xo, xt, dj⟩ := Fr.join_nodup hn
  have hf1 : FrOk vx mk g1 f := hf.same no (h.o _ xt) fun y hy => h.o y fun e => dj y e hy
  have hz' := hz
  simp only [plug] at hz'
  rw [Fr.join_size] at hz'
  have hrow := splitZ_row fs
  have hs : (splitZ fs).1.size + (splitZ fs).2.size = (plug fs .nil).size := by unfold Tp.size; rw [← hrow, List.length_append]
  have hd := nt
  rw [← hrow, List.nodup_append] at hd
  have hc : ∀ {c : Tp}, (∀ y ∈ c.row, y ∈ (plug fs .nil).row) → c.row.Nodup → (f.join c).row.Nodup := by
    intro c hc cn
    unfold Fr.join
    split
    · rw [Tp.row_node, List.nodup_append, List.nodup_cons]
      exact ⟨no, ⟨fun e => xt (hc _ e), cn⟩, fun y hy z hz e => by
        subst e
        rcases List.mem_cons.1 hz with rfl | hz
        · exact xo hy
        · exact dj y (hc _ hz) hy⟩
    · rw [Tp.row_node, List.nodup_append, List.nodup_cons]
      exact ⟨cn, ⟨xo, no⟩, fun y hy z hz e => by
        subst e
        rcases List.mem_cons.1 hz with rfl | hz
        · exact xt (hc _ hy)
        · exact dj y (hc _ hy) hz⟩
  have hpc : ∀ {c : Tp}, (∀ y ∈ c.row, y ∈ (plug fs .nil).row) → ∀ y ∈ (f.join c).row, y ≠ 0 := by
    intro c hc y hy
    rcases Fr.join_mem.1 hy with e | e | e
    · exact hp y (Fr.join_mem.2 (.inl e))
    · exact hp y (Fr.join_mem.2 (.inr (.inl e)))
    · exact hp y (Fr.join_mem.2 (.inr (.inr (hc y e))))
  have other : ∀ c : Tp, (∀ y ∈ c.row, y ∈ (plug fs .nil).row) → ∀ y, y ∉ (plug (f :: fs) .nil).row → ∀ k, hangG vx g1 f.x f.rt c.root y k = g y k := by
    intro c hc y hy k
    simp only [plug] at hy
    rw [Fr.join_mem, not_or, not_or] at hy
    by_cases hr : c.root = 0
    · by_cases y0 : y = 0
      · subst y0; have e0 := h.o 0 hy.2.2 k; rw [h.z] at e0; exact (hangG_zero _ h.z _ _ hf.nz k).trans e0
      · rw [hangG_other _ _ _ _ hy.1 (by omega)]; exact h.o y hy.2.2 k
    · rw [hangG_other _ _ _ _ hy.1 fun e => hy.2.2 (e ▸ hc _ (Tp.root_mem hr))]; exact h.o y hy.2.2 k
  have keep : ∀ c d : Tp, (∀ y ∈ c.row, y ∈ (plug fs .nil).row) → (∀ y ∈ d.row, y ∈ (plug fs .nil).row) → (∀ y ∈ d.row, y ∉ c.row) → d.row.Nodup → Loose vx mk g1 d → Loose vx mk (hangG vx g1 f.x f.rt c.root) d := by
    intro c d hc hd' hcd dn ld
    refine ld.same dn fun y hy k => hangG_other _ _ _ _ (fun e => xt (e ▸ hd' y hy)) fun e => ?_
    by_cases hr : c.root = 0
    · exact hp y (Fr.join_mem.2 (.inr (.inr (hd' y hy)))) (e.trans hr)
    · exact hcd y hy (e ▸ Tp.root_mem hr)
  by_cases hrt : f.rt = true
  · have e1 : splitZ (f :: fs) = (f.join (splitZ fs).1, (splitZ fs).2) := by simp only [splitZ]; rw [if_pos hrt]
    rw [e1, if_pos hrt]
    have m1 : ∀ y ∈ (splitZ fs).1.row, y ∈ (plug fs .nil).row := fun _ => splitZ_mem1
    have m2 : ∀ y ∈ (splitZ fs).2.row, y ∈ (plug fs .nil).row := fun _ => splitZ_mem2
    exact ⟨hang_loose hm h.z (hc m1 hd.1) (hpc m1) (by rw [Fr.join_size]; omega) hf1 h.la, keep _ _ m1 m2 (fun y h2 h1 => hd.2.2 y h1 y h2 rfl) hd.2.1 h.lb, hangG_zero _ h.z _ _ hf.nz, other _ m1, fun y => (hangG_pri _ _ _ _ _ _).trans (h.p y)⟩
  · have e1 : splitZ (f :: fs) = ((splitZ fs).1, f.join (splitZ fs).2) := by simp only [splitZ]; rw [if_neg hrt]
    rw [e1, if_neg hrt]
    have m1 : ∀ y ∈ (splitZ fs).1.row, y ∈ (plug fs .nil).row := fun _ => splitZ_mem1
    have m2 : ∀ y ∈ (splitZ fs).2.row, y ∈ (plug fs .nil).row := fun _ => splitZ_mem2
    exact ⟨keep _ _ m2 m1 (fun y h1 h2 => hd.2.2 y h1 y h2 rfl) hd.1 h.la, hang_loose hm h.z (hc m2 hd.2.1) (hpc m2) (by rw [Fr.join_size]; omega) hf1 h.lb, hangG_zero _ h.z _ _ hf.nz, other _ m2, fun y => (hangG_pri _ _ _ _ _ _).trans (h.p y)⟩

/-- What hangs below a way up: the steps from the node on. -/
def climb : List Fr → Tp → Tp
  | [], t => t
  | f :: fs, t => climb fs (f.join t)
theorem climb_size : ∀ (us : List Fr) (t : Tp), us.length + t.size ≤ (climb us t).size
  | [], t => by simp [climb]
  | f :: fs, t => by have := climb_size fs (f.join t); rw [Fr.join_size] at this; simp only [climb, List.length_cons]; omega
theorem climb_mem : ∀ {us : List Fr} {t : Tp} {y : Nat}, y ∈ t.row → y ∈ (climb us t).row
  | [], _, _, h => h
  | _ :: us, _, _, h => climb_mem (us := us) (Fr.join_mem.2 (.inr (.inr h)))
theorem climb_fr : ∀ {us : List Fr} {t : Tp} {f : Fr}, f ∈ us → f.x ∈ (climb us t).row
  | [], _, _, h => by simp at h
  | g :: us, t, f, h => by
    rcases List.mem_cons.1 h with rfl | h
    · exact climb_mem (us := us) (Fr.join_mem.2 (.inl rfl))
    · exact climb_fr (us := us) h
theorem climb_join : ∀ (us : List Fr) (f : Fr) (t : Tp), climb (us ++ [f]) t = f.join (climb us t)
  | [], _, _ => rfl
  | g :: us, f, t => by simp only [List.cons_append, climb, climb_join us f]
/-- Each node of a tree is below some way up. -/
theorem climb_to : ∀ {t : Tp} {x : Nat}, x ∈ t.row → ∃ us l r, t = climb us (.node l x r)
  | .nil, _, h => by simp [Tp.row] at h
  | .node l y r, x, h => by
    rw [Tp.row_node] at h
    rcases List.mem_append.1 h with h | h
    · obtain ⟨us, a, b, e⟩ := climb_to h
      exact ⟨us ++ [⟨y, false, r⟩], a, b, by rw [climb_join, ← e]; rfl⟩
    · rcases List.mem_cons.1 h with rfl | h
      · exact ⟨[], l, r, rfl⟩
      · obtain ⟨us, a, b, e⟩ := climb_to h
        exact ⟨us ++ [⟨y, true, l⟩], a, b, by rw [climb_join, ← e]; rfl⟩
/-- The tree's root is the last node of the way up. -/
def topOf : List Fr → Nat → Nat
  | [], x => x
  | f :: us, _ => topOf us f.x
theorem climb_root : ∀ (us : List Fr) (t : Tp), (climb us t).root = topOf us t.root
  | [], _ => rfl
  | f :: us, t => by simp only [climb, topOf]; rw [climb_root us, Fr.join_root]
/-- How many nodes are ahead of what is below a way up. -/
def ahead : List Fr → Nat
  | [] => 0
  | f :: us => (if f.rt then f.o.size + 1 else 0) + ahead us
theorem climb_row : ∀ (us : List Fr) (t : Tp), ∃ a b, (climb us t).row = a ++ t.row ++ b ∧ a.length = ahead us
  | [], t => ⟨[], [], by simp [climb], rfl⟩
  | ⟨x, rt, o⟩ :: us, t => by
    obtain ⟨a, b, e, h⟩ := climb_row us (Fr.join ⟨x, rt, o⟩ t)
    cases rt with
    | true => exact ⟨a ++ (o.row ++ [x]), b, by simp only [climb]; rw [e]; simp [Fr.join, Tp.row], by simp [ahead, h, Tp.size]; omega⟩
    | false => exact ⟨a, x :: o.row ++ b, by simp only [climb]; rw [e]; simp [Fr.join, Tp.row], by simp [ahead, h]⟩
theorem climb_at {us : List Fr} {l r : Tp} {x : Nat} : (climb us (.node l x r)).row[l.size + ahead us]? = some x := by
  obtain ⟨a, b, e, h⟩ := climb_row us (.node l x r)
  rw [e, ← h, Tp.row_node]
  simp [Tp.size, List.getElem?_append]
theorem climb_nodup : ∀ {us : List Fr} {t : Tp}, (climb us t).row.Nodup → t.row.Nodup
  | [], _, h => h
  | _ :: us, _, h => (Fr.join_nodup (climb_nodup (us := us) h)).2.1
theorem climb_loose {vx : Nat → Bool} {mk : Nat → Nat} (hm : ∀ x, mk x < 4) {g : Mg9} : ∀ {us : List Fr} {t : Tp}, Loose vx mk g (climb us t) → (climb us t).size < 65536 → (∀ x ∈ (climb us t).row, x ≠ 0) → Loose vx mk g t ∧ (∀ f ∈ us, FrOk vx mk g f) ∧ ∀ f us', us = f :: us' → t.root ≠ 0 → g t.root 2 = f.x ∧ g f.x (if f.rt then 4 else 3) = t.root
  | [], t, h, _, _ => ⟨h, by simp, by simp⟩
  | f :: us, t, h, hz, hp => by
    have ih := climb_loose hm (us := us) h hz hp
    have h1 := climb_size us (f.join t)
    have h2 := Loose.frame hm ih.1 (by simp only [climb] at hz; omega) (hp f.x (climb_fr (List.mem_cons_self ..)))
    refine ⟨h2.2.1, fun f' hf => ?_, fun f' us' e h0 => ?_⟩
    · rcases List.mem_cons.1 hf with rfl | hf
      · exact h2.1
      · exact ih.2.1 f' hf
    · injection e with e1 _; subst e1; exact ⟨h2.2.2.2 h0, h2.2.2.1⟩

/-- The first of a row that has a mark (m: 0 or 1); 0: none. -/
def mbit (mk : Nat → Nat) (m x : Nat) : Bool := decide (mk x / 2 ^ m % 2 = 1)
def firstR (mk : Nat → Nat) (m : Nat) : List Nat → Nat
  | [] => 0
  | x :: l => if mbit mk m x then x else firstR mk m l
theorem firstR_app (mk : Nat → Nat) (m : Nat) : ∀ (a b : List Nat), firstR mk m (a ++ b) = if a.any (mbit mk m) then firstR mk m a else firstR mk m b
  | [], b => by simp
  | x :: a, b => by
    simp only [List.cons_append, firstR, List.any_cons]
    by_cases h : mbit mk m x = true
    · simp [h]
    · simp only [h, Bool.false_or]
      rw [firstR_app mk m a b]; simp
theorem firstR_none (mk : Nat → Nat) (m : Nat) : ∀ {a : List Nat}, a.any (mbit mk m) = false → firstR mk m a = 0
  | [], _ => rfl
  | x :: a, h => by
    rw [List.any_cons, Bool.or_eq_false_iff] at h
    simp only [firstR, h.1]; exact firstR_none mk m h.2
theorem any_bit {mk : Nat → Nat} {m : Nat} (hm2 : m < 2) (hm : ∀ x, mk x < 4) : ∀ (a : List Nat), (decide (allM mk a / 2 ^ m % 2 = 1)) = a.any (mbit mk m)
  | [] => by simp [allM]
  | x :: a => by
    have ih := any_bit hm2 hm a
    rw [List.any_cons, ← ih]
    have h1 := hm x
    have h2 := allM_lt hm a
    simp only [allM, mbit]
    have key : ∀ p < 4, ∀ q < 4, ∀ i < 2, decide ((p ||| q) / 2 ^ i % 2 = 1) = (decide (p / 2 ^ i % 2 = 1) || decide (q / 2 ^ i % 2 = 1)) := by decide
    exact key _ h1 _ h2 _ hm2

end Go.Proofs.Ytaooglagddphnaa

/- Trees in memory: what nodes' cells have; contracts of node, load, store. -/
namespace Go.Proofs.Ytaooglagddphnaa
open Go.RowKit

set_option maxRecDepth 100000

/-- Is a node an arc; its level; has it a pointer cell? -/
def arcN (V : Int) (x : Nat) : Bool := decide (vn V ≤ (x : Int) - 1)
def lvN (V : Int) (x : Nat) : Int := if vn V ≤ (x : Int) - 1 then ((x : Int) - 1 - vn V) % sn V / 2 else ((x : Int) - 1) / V
def isP (V : Int) (x : Nat) : Bool := decide (x ≠ 0 ∧ lvN V x = 0)
def nN (V S : Int) : Nat := (nd V S).toNat
/-- A node's field's cell. -/
def cN (V S T : Int) (x k : Nat) : Nat := (o5 V S T + ((x : Int) - 1) * 7 + (k : Int)).toNat
def cellsN (V S T : Int) : Nat := (cn V S T).toNat

section
variable {V S T : Int}
theorem nN_int (h : Rt V S T) : ((nN V S : Nat) : Int) = nd V S := by have := (sizes h).nd1; unfold nN; omega
theorem nN_le (h : Rt V S T) : nN V S ≤ 560 := by have := (sizes h).nd2; unfold nN; omega
theorem nN_pos (h : Rt V S T) : 1 ≤ nN V S := by have := (sizes h).nd1; unfold nN; omega
theorem o5_bd (h : Rt V S T) : 0 ≤ o5 V S T := by
  have z := sizes h
  have a1 := z.vn1
  have a2 := h.s1
  have a3 := h.t1
  have a4 : 0 ≤ pr V := by unfold pr; exact Int.ediv_nonneg (Int.mul_nonneg (by have := h.v1; omega) (by have := h.v1; omega)) (by omega)
  unfold o5; omega
theorem cN_int (h : Rt V S T) {x k : Nat} (h1 : 1 ≤ x) : ((cN V S T x k : Nat) : Int) = o5 V S T + ((x : Int) - 1) * 7 + (k : Int) := by have := o5_bd h; unfold cN; omega
theorem field_cN (h : Rt V S T) {x k : Nat} (h1 : 1 ≤ x) (h2 : x ≤ nN V S) (h3 : k < 7) : fieldF V S T (x : Int) (k : Int) = (cN V S T x k : Int) := by
  have := nN_int h
  rw [cN_int h h1]; unfold fieldF; rw [if_pos (by omega)]
theorem cN_lt (h : Rt V S T) {x k : Nat} (h1 : 1 ≤ x) (h2 : x ≤ nN V S) (h3 : k < 7) : cN V S T x k < cellsN V S T := by
  have e1 := nN_int h
  have e2 := cN_int (k := k) h h1
  have e3 : cn V S T = o5 V S T + nd V S * 7 := by unfold cn o5; omega
  have := o5_bd h
  unfold cellsN; omega
theorem cN_inj (h : Rt V S T) {x y k j : Nat} (h1 : 1 ≤ x) (h2 : 1 ≤ y) (h3 : k < 7) (h4 : j < 7) (e : cN V S T x k = cN V S T y j) : x = y ∧ k = j := by
  have e2 := cN_int (k := k) h h1
  have e3 := cN_int (k := j) h h2
  omega

/-- The cells' numbers, and what the nodes have. -/
structure Rl (V S T : Int) (f : Nat → Int) (g : Mg9) : Prop where
  z : ∀ k, g 0 k = 0
  c : ∀ x k, 1 ≤ x → x ≤ nN V S → 3 ≤ k → k ≤ 6 → f (cN V S T x k) = (g x k : Int)
  a : ∀ x, 1 ≤ x → x ≤ nN V S → isP V x = false → f (cN V S T x 2) = (g x 2 : Int)
  p : ∀ x, 1 ≤ x → x ≤ nN V S → isP V x = true → rightV (f (cN V S T x 2)) = true ∧ rN (f (cN V S T x 2)) = (g x 2 : Int)
  b : ∀ x, x ≤ nN V S → g x 2 ≤ nN V S ∧ g x 3 ≤ nN V S ∧ g x 4 ≤ nN V S
  o : ∀ i, (∀ x k, 1 ≤ x → x ≤ nN V S → 2 ≤ k → k ≤ 6 → i ≠ cN V S T x k) → f i = (g (nN V S + 1 + i) 5 : Int)

/-- Trees in memory: an arena, its counts' bound, what its nodes have. -/
structure TM (w : World) (V S T : Int) (p gb cap m : Nat) (g : Mg9) : Prop where
  hR : Rt V S T
  ar : ∃ c f, Ar w p gb (cellsN V S T) cap c f ∧ CB c m ∧ Rl V S T f g

variable {w w' : World} {p gb cap m m' : Nat} {g : Mg9}
theorem TM.z (h : TM w V S T p gb cap m g) (k : Nat) : g 0 k = 0 := by obtain ⟨_, _, _, _, r⟩ := h.ar; exact r.z k
theorem TM.b (h : TM w V S T p gb cap m g) {x : Nat} (hx : x ≤ nN V S) : g x 2 ≤ nN V S ∧ g x 3 ≤ nN V S ∧ g x 4 ≤ nN V S := by obtain ⟨_, _, _, _, r⟩ := h.ar; exact r.b x hx
theorem TM.fit (h : TM w V S T p gb cap m g) {x k : Nat} (hx : x ≤ nN V S) (h1 : 3 ≤ k) (h2 : k ≤ 6) : g x k ≤ 18446744073709551615 := by
  obtain ⟨c, f, A, _, r⟩ := h.ar
  by_cases h0 : x = 0
  · subst h0; rw [r.z]; omega
  · have e := r.c x k (by omega) hx h1 h2
    have := A.fit (cN V S T x k) (cN_lt h.hR (by omega) hx (by omega))
    omega
theorem TM.below (h : TM w V S T p gb cap m g) (hb : Below w.heap.size w w') : TM w' V S T p gb cap m g := by
  obtain ⟨c, f, A, C, r⟩ := h.ar
  exact ⟨h.hR, c, f, A.below hb (Nat.le_refl _), C, r⟩
theorem TM.more (h : TM w V S T p gb cap m g) (hm : m ≤ m') : TM w V S T p gb cap m' g := by
  obtain ⟨c, f, A, C, r⟩ := h.ar
  exact ⟨h.hR, c, f, A, C.more hm, r⟩
theorem TM.drew (h : TM w V S T p gb cap m g) : TM w.drew V S T p gb cap m g := h.below (Below.refl _ _).drew
theorem TM.alloc (h : TM w V S T p gb cap m g) (o : Obj) : TM (w.alloc o) V S T p gb cap m g := h.below ((Below.refl _ _).alloc (Nat.le_refl _) o)
theorem TM.p_lt (h : TM w V S T p gb cap m g) : p < w.heap.size := by obtain ⟨_, _, A, _⟩ := h.ar; exact A.p_lt
theorem TM.g_lt (h : TM w V S T p gb cap m g) : gb < w.heap.size := by obtain ⟨_, _, A, _⟩ := h.ar; exact A.g_lt
theorem TM.ne (h : TM w V S T p gb cap m g) : p ≠ gb := by obtain ⟨_, _, A, _⟩ := h.ar; exact A.ne_
theorem TM.blk (h : TM w V S T p gb cap m g) : (∃ cs, Blk w p 118 cs) ∧ ∃ zs, Blk w gb 51 zs := by
  obtain ⟨_, _, A, _⟩ := h.ar
  obtain ⟨zs, hz, _⟩ := A.cells
  exact ⟨⟨_, A.own⟩, ⟨zs, hz⟩⟩
theorem Blk.treap {q : Nat} {ty : TypeId} {cs : Array Value} (h : Blk w q ty cs) (A : TM w V S T p gb cap m g) (ho : Only p gb w w') (h1 : ty ≠ 118) (h2 : ty ≠ 51) : Blk w' q ty cs := by
  obtain ⟨⟨_, h3⟩, ⟨_, h4⟩⟩ := A.blk
  exact h.only ho (h.ne_ h3 h1) (h.ne_ h4 h2)
theorem TM.far (h : TM w V S T p gb cap m g) {q j : Nat} {ty : TypeId} {cs : Array Value} (hq : Blk w q ty cs) (h1 : ty ≠ 118) (h2 : ty ≠ 51) (u : Value) : TM (w.setCell ⟨q, j, none⟩ u) V S T p gb cap m g := by
  obtain ⟨⟨_, h3⟩, ⟨_, h4⟩⟩ := h.blk
  obtain ⟨c, f, A, C, r⟩ := h.ar
  exact ⟨h.hR, c, f, A.q_far (hq.ne_ h3 h1) (hq.ne_ h4 h2) u, C, r⟩

/-- The value of trees, and their variable. -/
abbrev vTr (V S T : Int) (p : Nat) : Value := .agg #[.int .i64 V, .int .i64 S, .int .i64 T, .iface 84 (pmV p), .int .i64 1, .int .i64 0]
def TB (w : World) (b : Nat) (V S T : Int) (p : Nat) : Prop := Blk w b 32 #[.int .i64 V, .int .i64 S, .int .i64 T, .iface 84 (pmV p), .int .i64 1, .int .i64 0]
theorem TB.new (w : World) (V S T : Int) (p : Nat) : TB (w.alloc (.cells #[.int .i64 V, .int .i64 S, .int .i64 T, .iface 84 (pmV p), .int .i64 1, .int .i64 0] 32)) w.heap.size V S T p := Blk.new _ _ _
theorem TB.lt {b : Nat} (h : TB w b V S T p) : b < w.heap.size := Blk.lt h
theorem TB.below {b : Nat} (h : TB w b V S T p) (hb : Below w.heap.size w w') : TB w' b V S T p := Blk.below h hb (Blk.lt h)
theorem TB.only {b : Nat} (h : TB w b V S T p) (A : TM w V S T p gb cap m g) (ho : Only p gb w w') : TB w' b V S T p := Blk.treap h A ho (by decide) (by decide)
theorem TB.drew {b : Nat} (h : TB w b V S T p) : TB w.drew b V S T p := h
theorem TB.alloc {b : Nat} (h : TB w b V S T p) (o : Obj) : TB (w.alloc o) b V S T p := Blk.alloc h o
theorem TB.cells {b : Nat} (h : TB w b V S T p) : w.cell? ⟨b, 0, none⟩ = some (.int .i64 V) ∧ w.cell? ⟨b, 1, none⟩ = some (.int .i64 S) ∧ w.cell? ⟨b, 2, none⟩ = some (.int .i64 T) ∧ w.cell? ⟨b, 3, none⟩ = some (.iface 84 (pmV p)) ∧ w.cell? ⟨b, 4, none⟩ = some (.int .i64 1) ∧ w.cell? ⟨b, 5, none⟩ = some (.int .i64 0) :=
  ⟨Blk.cell h 0, Blk.cell h 1, Blk.cell h 2, Blk.cell h 3, Blk.cell h 4, Blk.cell h 5⟩

/-- Node, of a node that is there, or of none. -/
theorem node_is (h : Rt V S T) {x : Nat} (h1 : 1 ≤ x) (h2 : x ≤ nN V S) (w : World) :
    Calls Try.prog 107 #[vL V S T, .int .i64 (x : Int)] w fun e w' => (∃ v s d, e = .returned (.tuple #[vT (arcN V x) (lvN V x) v s d, .bool true])) ∧ Below w.heap.size w w' := by
  have e1 := nN_int h
  by_cases ha : vn V ≤ (x : Int) - 1
  · refine (node_arc V S T (x : Int) h (by omega) ha w).mono ?_
    rintro e w' ⟨rfl, hb⟩
    exact ⟨⟨0, ((x : Int) - 1 - vn V) / sn V, ((x : Int) - 1 - vn V) % 2, by unfold arcN lvN; rw [decide_eq_true ha, if_pos ha]⟩, hb⟩
  · refine (node_vertex V S T (x : Int) h (by omega) (by omega) w).mono ?_
    rintro e w' ⟨rfl, hb⟩
    exact ⟨⟨((x : Int) - 1) % V, 0, 0, by unfold arcN lvN; rw [decide_eq_false ha, if_neg ha]⟩, hb⟩

theorem tnode_any (hR : Rt V S T) {x : Nat} (hx : x ≤ nN V S) (p : Nat) (w : World) :
    Calls Try.prog 143 #[vTr V S T p, .int .i64 (x : Int)] w fun e w' => e = .returned (.int .i64 (x : Int)) ∧ Below w.heap.size w w' := by
  have HR := Lib.hid hR
  clear hR
  by_cases h0 : x = 0
  · subst h0
    go_enter Try.func143, Try.ntmps143
    go_wp2_with fail
    refine (node_low V S T 0 (by omega) _).mono ?_; rintro e w1 ⟨rfl, hb1⟩
    have HB := Lib.hid (keepL ((Below.refl _ _).alloc (Nat.le_refl _) _) hb1)
    clear hb1
    go_wp2_with fail
    go_ret
    exact ⟨rfl, HB.out.alloc HB.out.size _⟩
  · go_enter Try.func143, Try.ntmps143
    go_wp2_with fail
    refine (node_is HR.out (by omega) hx _).mono ?_; rintro e w1 ⟨⟨v, s, d, rfl⟩, hb1⟩
    have HB := Lib.hid (keepL ((Below.refl _ _).alloc (Nat.le_refl _) _) hb1)
    clear hb1
    go_wp2_with fail
    go_ret
    exact ⟨rfl, HB.out.alloc HB.out.size _⟩
end

end Go.Proofs.Ytaooglagddphnaa

/- Contracts of load, store, child, isPointer, parent, setParent. -/
namespace Go.Proofs.Ytaooglagddphnaa
open Go.RowKit

set_option maxRecDepth 100000

theorem field_none (V S T : Int) {x : Nat} (h : x = 0) (k : Int) : fieldF V S T (x : Int) k = -1 := by subst h; exact if_neg (by omega)
theorem right_pen {o y : Int} (h1 : 0 ≤ o) (h2 : o ≤ 65535) (h3 : 0 ≤ y) (h4 : y ≤ 65535) : rightW o y 1 0 = true := by rw [rightW_eq]; exact decide_eq_true (by omega)

section
variable {V S T : Int} {f : Nat → Int} {g : Mg9}
theorem up2_b {n : Nat} {x k v : Nat} (hb : ∀ y, y ≤ n → g y 2 ≤ n ∧ g y 3 ≤ n ∧ g y 4 ≤ n) (hv : k ≤ 4 → v ≤ n) : ∀ y, y ≤ n → up2 g x k v y 2 ≤ n ∧ up2 g x k v y 3 ≤ n ∧ up2 g x k v y 4 ≤ n := by
  intro y hy
  have h := hb y hy
  refine ⟨?_, ?_, ?_⟩ <;> (unfold up2; split)
  · rename_i e; exact hv (by omega)
  · exact h.1
  · rename_i e; exact hv (by omega)
  · exact h.2.1
  · rename_i e; exact hv (by omega)
  · exact h.2.2
theorem Rl.store (r : Rl V S T f g) (hR : Rt V S T) {x k v : Nat} (h1 : 1 ≤ x) (h2 : x ≤ nN V S) (h3 : 3 ≤ k) (h4 : k ≤ 6) (hv : k ≤ 4 → v ≤ nN V S) : Rl V S T (upd f (cN V S T x k) (v : Int)) (up2 g x k v) := by
  have ot : ∀ y, 1 ≤ y → upd f (cN V S T x k) (v : Int) (cN V S T y 2) = f (cN V S T y 2) := fun y hy => upd_other _ _ fun e => by have := (cN_inj hR hy h1 (by omega) (by omega) e).2; omega
  refine ⟨fun j => (up2_node _ _ _ _ (by omega)).trans (r.z j), fun y j y1 y2 j1 j2 => ?_, fun y y1 y2 hy => ?_, fun y y1 y2 hy => ?_, up2_b r.b hv, fun i hi => (upd_other _ _ (hi x k h1 h2 (by omega) h4)).trans ((r.o i hi).trans (by rw [up2_node _ _ _ _ (by omega)]))⟩
  · by_cases e : y = x ∧ j = k
    · obtain ⟨rfl, rfl⟩ := e; rw [upd_same, up2_same]
    · rw [upd_other _ _ fun e' => e (cN_inj hR y1 h1 (by omega) (by omega) e')]
      unfold up2; rw [if_neg e]; exact r.c y j y1 y2 j1 j2
  · rw [ot y y1, up2_field _ _ _ _ (by omega)]; exact r.a y y1 y2 hy
  · rw [ot y y1, up2_field _ _ _ _ (by omega)]; exact r.p y y1 y2 hy
theorem Rl.par_a (r : Rl V S T f g) (hR : Rt V S T) {x v : Nat} (h1 : 1 ≤ x) (h2 : x ≤ nN V S) (hp : isP V x = false) (hv : v ≤ nN V S) : Rl V S T (upd f (cN V S T x 2) (v : Int)) (up2 g x 2 v) := by
  refine ⟨fun j => (up2_node _ _ _ _ (by omega)).trans (r.z j), fun y j y1 y2 j1 j2 => ?_, fun y y1 y2 hy => ?_, fun y y1 y2 hy => ?_, up2_b r.b (fun _ => hv), fun i hi => (upd_other _ _ (hi x 2 h1 h2 (by omega) (by omega))).trans ((r.o i hi).trans (by rw [up2_node _ _ _ _ (by omega)]))⟩
  · rw [upd_other _ _ fun e => by have := (cN_inj hR y1 h1 (by omega) (by omega) e).2; omega, up2_field _ _ _ _ (by omega)]; exact r.c y j y1 y2 j1 j2
  · by_cases e : y = x
    · subst e; rw [upd_same, up2_same]
    · rw [upd_other _ _ fun e' => e (cN_inj hR y1 h1 (by omega) (by omega) e').1, up2_node _ _ _ _ e]; exact r.a y y1 y2 hy
  · have e : y ≠ x := fun e => by rw [e, hp] at hy; cases hy
    rw [upd_other _ _ fun e' => e (cN_inj hR y1 h1 (by omega) (by omega) e').1, up2_node _ _ _ _ e]; exact r.p y y1 y2 hy
theorem Rl.par_p (r : Rl V S T f g) (hR : Rt V S T) {x v : Nat} {W : Int} (h1 : 1 ≤ x) (h2 : x ≤ nN V S) (hp : isP V x = true) (hv : v ≤ nN V S) (hw : rightV W = true) (hn : rN W = (v : Int)) : Rl V S T (upd f (cN V S T x 2) W) (up2 g x 2 v) := by
  refine ⟨fun j => (up2_node _ _ _ _ (by omega)).trans (r.z j), fun y j y1 y2 j1 j2 => ?_, fun y y1 y2 hy => ?_, fun y y1 y2 hy => ?_, up2_b r.b (fun _ => hv), fun i hi => (upd_other _ _ (hi x 2 h1 h2 (by omega) (by omega))).trans ((r.o i hi).trans (by rw [up2_node _ _ _ _ (by omega)]))⟩
  · rw [upd_other _ _ fun e => by have := (cN_inj hR y1 h1 (by omega) (by omega) e).2; omega, up2_field _ _ _ _ (by omega)]; exact r.c y j y1 y2 j1 j2
  · have e : y ≠ x := fun e => by rw [e, hp] at hy; cases hy
    rw [upd_other _ _ fun e' => e (cN_inj hR y1 h1 (by omega) (by omega) e').1, up2_node _ _ _ _ e]; exact r.a y y1 y2 hy
  · by_cases e : y = x
    · subst e; rw [upd_same, up2_same]; exact ⟨hw, hn⟩
    · rw [upd_other _ _ fun e' => e (cN_inj hR y1 h1 (by omega) (by omega) e').1, up2_node _ _ _ _ e]; exact r.p y y1 y2 hy

variable {w w' : World} {p gb cap m : Nat}
/-- What a call that loads and stores leaves. -/
def Did (V S T : Int) (p gb cap m : Nat) (g : Mg9) (r : Value) (w : World) (e : Ending) (w' : World) : Prop := e = .returned r ∧ TM w' V S T p gb cap m g ∧ Only p gb w w'

theorem tload (A : TM w V S T p gb cap m g) {x k : Nat} {kI : Int} (hk : kI = (k : Int)) (hx : x ≤ nN V S) (hk7 : 2 ≤ k ∧ k ≤ 6) (hp : k = 2 → isP V x = false) (hm : m ≤ 100000000) :
    Calls Try.prog 124 #[vTr V S T p, .int .i64 (x : Int), .int .i64 kI] w (Did V S T p gb cap (m + 1) g (.int .u64 (g x k : Int)) w) := by
  subst hk
  have ml := methp_load
  have nl := nilp_load
  have xI : (x : Int) ≤ 560 := by have := nN_le A.hR; omega
  have HA := Lib.hid A
  have HX := Lib.hid hx
  have HP := Lib.hid hp
  have HZ := Lib.hid (A.z k)
  clear A hx hp
  by_cases h0 : x = 0
  · have HF := Lib.hid (field_none V S T h0 (k : Int))
    have e0 : g x k = 0 := by rw [h0]; exact HZ.out
    have HE := Lib.hid e0
    have HH := Lib.hid h0
    clear h0 e0
    go_enter Try.func124, Try.ntmps124
    go_wp2_with fail
    refine (field_yes V S T (x : Int) (k : Int) HA.out.hR (by omega) (by omega) _).mono ?_; rintro e w1 ⟨rfl, hb1⟩; rw [HF.out]
    have HB := Lib.hid (keepL ((Below.refl _ _).alloc (Nat.le_refl _) _) hb1)
    clear hb1
    go_wp2_with fail
    rw [HE.out]
    go_ret
    exact ⟨rfl, (HA.out.below HB.out).more (by omega), Only.of_below HB.out⟩
  · have hx1 : 1 ≤ x := by omega
    have HF := Lib.hid (field_cN HA.out.hR hx1 HX.out (k := k) (by omega))
    have HL := Lib.hid (cN_lt HA.out.hR hx1 HX.out (k := k) (by omega))
    obtain ⟨c, f, A, C, r⟩ := HA.out.ar
    have ev : f (cN V S T x k) = (g x k : Int) := by
      by_cases h2 : k = 2
      · subst h2; exact r.a x hx1 HX.out (HP.out rfl)
      · exact r.c x k hx1 HX.out (by omega) (by omega)
    have HE := Lib.hid ev
    have HAr := Lib.hid A
    have HC := Lib.hid C
    have Hr := Lib.hid r
    clear ev h0 A C r
    generalize hq : cN V S T x k = q at HF HL HE
    clear hq
    go_enter Try.func124, Try.ntmps124
    go_wp2_with fail
    refine (field_yes V S T (x : Int) (k : Int) HA.out.hR (by omega) (by omega) _).mono ?_; rintro e w1 ⟨rfl, hb1⟩; rw [HF.out]
    obtain ⟨hc, hf⟩ := bcellL hb1
    have HB := Lib.hid (keepL ((Below.refl _ _).alloc (Nat.le_refl _) _) hb1)
    have HA1 := Lib.hid (HAr.out.below HB.out (Nat.le_refl _))
    have hlt := hb1.size
    clear hb1
    go_wp2_with fail
    refine (pm_load HA1.out HL.out HC.out hm).mono ?_; rintro e w2 ⟨rfl, A2, O2⟩; rw [HE.out]
    have HA2 := Lib.hid A2
    have HO2 := Lib.hid ((Only.of_below (p := p) (g := gb) HB.out).trans O2)
    clear A2 O2 hc hf
    go_wp2_with fail
    go_ret
    exact ⟨rfl, ⟨HA.out.hR, _, _, HA2.out, HC.out.upd 0, Hr.out⟩, HO2.out⟩

theorem tstore (A : TM w V S T p gb cap m g) {x k v : Nat} {kI : Int} (hk : kI = (k : Int)) (hx : x ≤ nN V S) (hx1 : 1 ≤ x) (hk7 : 2 ≤ k ∧ k ≤ 6) (hp : k = 2 → isP V x = false) (hv : k ≤ 4 → v ≤ nN V S) (hv64 : v ≤ 18446744073709551615) (hm : m ≤ 100000000) :
    Calls Try.prog 97 #[vTr V S T p, .int .i64 (x : Int), .int .i64 kI, .int .u64 (v : Int)] w (Did V S T p gb cap (m + 1) (up2 g x k v) (.tuple #[]) w) := by
  subst hk
  have ml := methp_store
  have nl := nilp_store
  have xI : (x : Int) ≤ 560 := by have := nN_le A.hR; omega
  have HA := Lib.hid A
  have HX := Lib.hid hx
  have HF := Lib.hid (field_cN A.hR hx1 hx (k := k) (by omega))
  have HL := Lib.hid (cN_lt A.hR hx1 hx (k := k) (by omega))
  obtain ⟨c, f, A', C, r⟩ := A.ar
  have r' : Rl V S T (upd f (cN V S T x k) (v : Int)) (up2 g x k v) := by
    by_cases h2 : k = 2
    · subst h2; exact r.par_a A.hR hx1 hx (hp rfl) (hv (by omega))
    · exact r.store A.hR hx1 hx (by omega) (by omega) hv
  have HAr := Lib.hid A'
  have HC := Lib.hid C
  have Hr := Lib.hid r'
  clear A A' C r r' hx hp
  generalize hq : cN V S T x k = q at HF HL Hr
  clear hq
  go_enter Try.func97, Try.ntmps97
  go_wp2_with fail
  refine (field_yes V S T (x : Int) (k : Int) HA.out.hR (by omega) (by omega) _).mono ?_; rintro e w1 ⟨rfl, hb1⟩; rw [HF.out]
  obtain ⟨hc, hf⟩ := bcellL hb1
  have HB := Lib.hid (keepL ((Below.refl _ _).alloc (Nat.le_refl _) _) hb1)
  have HA1 := Lib.hid (HAr.out.below HB.out (Nat.le_refl _))
  have hlt := hb1.size
  clear hb1
  go_wp2_with fail
  refine (pm_store HA1.out HL.out (by omega) (by omega) HC.out hm).mono ?_; rintro e w2 ⟨rfl, A2, O2⟩
  have HA2 := Lib.hid A2
  have HO2 := Lib.hid ((Only.of_below (p := p) (g := gb) HB.out).trans O2)
  clear A2 O2 hc hf
  go_wp2_with fail
  go_end0
  exact ⟨rfl, ⟨HA.out.hR, _, _, HA2.out, HC.out.upd 1, Hr.out⟩, HO2.out⟩

theorem isPointer_any (hR : Rt V S T) {x : Nat} (hx : x ≤ nN V S) (p : Nat) (w : World) :
    Calls Try.prog 125 #[vTr V S T p, .int .i64 (x : Int)] w fun e w' => e = .returned (.bool (isP V x)) ∧ Below w.heap.size w w' := by
  have HR := Lib.hid hR
  clear hR
  by_cases h0 : x = 0
  · subst h0
    go_enter Try.func125, Try.ntmps125
    go_wp2_with fail
    refine (node_low V S T 0 (by omega) _).mono ?_; rintro e w1 ⟨rfl, hb1⟩
    have HB := Lib.hid (keepL ((Below.refl _ _).alloc (Nat.le_refl _) _) hb1)
    clear hb1
    go_wp2_with fail
    go_ret
    exact ⟨rfl, HB.out.alloc HB.out.size _⟩
  · have hx1 : 1 ≤ x := by omega
    by_cases hl : lvN V x = 0
    · rw [show isP V x = true from decide_eq_true ⟨h0, hl⟩]
      go_enter Try.func125, Try.ntmps125
      go_wp2_with fail
      refine (node_is HR.out hx1 hx _).mono ?_; rintro e w1 ⟨⟨v, s, d, rfl⟩, hb1⟩; rw [hl]
      have HB := Lib.hid (keepL ((Below.refl _ _).alloc (Nat.le_refl _) _) hb1)
      clear hb1
      go_wp2_with fail
      go_ret
      exact ⟨rfl, HB.out.alloc HB.out.size _⟩
    · rw [show isP V x = false from decide_eq_false fun h => hl h.2]
      obtain ⟨l, el⟩ : ∃ l, lvN V x = l := ⟨_, rfl⟩
      rw [el] at hl
      have HL := Lib.hid el
      clear el
      go_enter Try.func125, Try.ntmps125
      go_wp2_with fail
      refine (node_is HR.out hx1 hx _).mono ?_; rintro e w1 ⟨⟨v, s, d, rfl⟩, hb1⟩; rw [HL.out]
      have HB := Lib.hid (keepL ((Below.refl _ _).alloc (Nat.le_refl _) _) hb1)
      clear hb1
      go_wp2_with fail
      go_ret
      exact ⟨by show Ending.returned (.bool (l == 0)) = _; rw [show (l == 0) = false from beq_eq_false_iff_ne.2 hl], HB.out.alloc HB.out.size _⟩
end

end Go.Proofs.Ytaooglagddphnaa

/- Contracts of child, parent, setParent. Printed by wip/tools/trpe.py. -/
namespace Go.Proofs.Ytaooglagddphnaa
open Go.RowKit

set_option maxRecDepth 100000

theorem tb_rule (b : Nat) (V S T : Int) (p : Nat) : ∀ W : World, TB W b V S T p → W.cell? ⟨b, 0, none⟩ = some (.int .i64 V) ∧ W.cell? ⟨b, 1, none⟩ = some (.int .i64 S) ∧ W.cell? ⟨b, 2, none⟩ = some (.int .i64 T) ∧ W.cell? ⟨b, 3, none⟩ = some (.iface 84 (pmV p)) ∧ W.cell? ⟨b, 4, none⟩ = some (.int .i64 1) ∧ W.cell? ⟨b, 5, none⟩ = some (.int .i64 0) := fun _ h => h.cells

theorem kI2 : (2 : Int) = ((2 : Nat) : Int) := rfl
theorem kI3 : (3 : Int) = ((3 : Nat) : Int) := rfl
theorem kI4 : (4 : Int) = ((4 : Nat) : Int) := rfl
theorem kI5 : (5 : Int) = ((5 : Nat) : Int) := rfl
theorem kI6 : (6 : Int) = ((6 : Nat) : Int) := rfl

section
variable {V S T : Int} {g : Mg9} {w w' : World} {p gb cap m : Nat}

/-- Nothing is stored where there is no node. -/
theorem store_none (hR : Rt V S T) {x : Nat} (hx : x ≤ nN V S) (hf : fieldF V S T (x : Int) 2 = -1) (p v : Nat) (w : World) :
    Calls Try.prog 97 #[vTr V S T p, .int .i64 (x : Int), .int .i64 2, .int .u64 (v : Int)] w fun e w' => e = .returned (.tuple #[]) ∧ Below w.heap.size w w' := by
  have HR := Lib.hid hR
  have HF := Lib.hid hf
  have xI : Hid ((x : Int) ≤ 9223372036854775807) := Lib.hid (by have := nN_le hR; omega)
  clear hR hf hx
  go_enter Try.func97, Try.ntmps97
  go_wp2_with fail
  refine (field_yes V S T (x : Int) 2 HR.out (by omega) xI.out _).mono ?_; rintro e w1 ⟨rfl, hb1⟩; rw [HF.out]
  have HB := Lib.hid (keepL ((Below.refl _ _).alloc (Nat.le_refl _) _) hb1)
  clear hb1
  go_wp2_with fail
  exact bodyPost_ret (v := .tuple #[]) (by simp [results, Try.results97, go_sem]) rfl ⟨rfl, HB.out⟩

theorem tchild (A : TM w V S T p gb cap m g) {x k : Nat} {kI : Int} (hk : kI = (k : Int)) (hx : x ≤ nN V S) (hk7 : k = 3 ∨ k = 4) (hm : m ≤ 100000000) :
    Calls Try.prog 139 #[vTr V S T p, .int .i64 (x : Int), .int .i64 kI] w (Did V S T p gb cap (m + 1) g (.int .i64 (g x k : Int)) w) := by
  have hy : g x k ≤ nN V S := by rcases hk7 with rfl | rfl; exact (A.b hx).2.1; exact (A.b hx).2.2
  have yI : ((g x k : Nat) : Int) ≤ 560 := by have := nN_le A.hR; omega
  have hw : IntKind.i64.wrap ((g x k : Nat) : Int) = ((g x k : Nat) : Int) := IntWalk.i64_in _ (by omega)
  have HK := Lib.hid hk
  have HX := Lib.hid hx
  have HR := Lib.hid A.hR
  have HY := Lib.hid hy
  have HA := Lib.hid A
  have H7 : Hid (2 ≤ k ∧ k ≤ 6) := Lib.hid (by omega)
  have HP : Hid (k = 2 → isP V x = false) := Lib.hid fun e => by omega
  obtain ⟨y, hyv⟩ : ∃ y, g x k = y := ⟨_, rfl⟩
  have HV := Lib.hid hyv
  rw [hyv] at yI hw
  rw [hyv] at HY
  rw [hyv]
  clear A hx hk hk7 hy hyv
  go_enter Try.func139, Try.ntmps139
  go_wp2_with fail
  have HT : Hid (TB (w.alloc (.cells #[.int .i64 V, .int .i64 S, .int .i64 T, .iface 84 (pmV p), .int .i64 1, .int .i64 0] 32)) w.heap.size V S T p) := Lib.hid (TB.new _ _ _ _ _)
  have HA0 := Lib.hid (HA.out.alloc (.cells #[.int .i64 V, .int .i64 S, .int .i64 T, .iface 84 (pmV p), .int .i64 1, .int .i64 0] 32))
  have HO0 := Lib.hid ((Only.refl p gb w).alloc (.cells #[.int .i64 V, .int .i64 S, .int .i64 T, .iface 84 (pmV p), .int .i64 1, .int .i64 0] 32))
  have HBL : Hid (w.heap.size < (w.alloc (.cells #[.int .i64 V, .int .i64 S, .int .i64 T, .iface 84 (pmV p), .int .i64 1, .int .i64 0] 32)).heap.size) := Lib.hid (by simp)
  generalize hwb : w.heap.size = b at HT HBL ⊢
  generalize hW : w.alloc (.cells #[.int .i64 V, .int .i64 S, .int .i64 T, .iface 84 (pmV p), .int .i64 1, .int .i64 0] 32) = W at HT HA0 HO0 HBL ⊢
  clear hW
  have htb := tb_rule b V S T p
  obtain ⟨y0, y1, y2, y3, y4, y5⟩ := HT.out.cells
  have hlt := HT.out.lt
  have HTd := Lib.hid HT.out.drew
  have HAd := Lib.hid HA0.out.drew
  have HOd := Lib.hid HO0.out.drew
  go_region_held3 (fun W => TB W b V S T p) (first | (with_reducible assumption) | (with_reducible exact TB.below (by assumption) hb1) | (with_reducible exact TB.only (by assumption) (Hid.out (by assumption : Hid (TM _ V S T p gb cap (m) g))) O2) | (with_reducible exact HTd.out))
    (first
      | (go_at_call 143; ((with_reducible refine (tnode_any HR.out HY.out p _).mono ?_); rintro e w' ⟨rfl, hb1⟩; have HA3 := Lib.hid (TM.below (Hid.out (by assumption : Hid (TM _ V S T p gb cap (m + 1) g))) hb1); have HO3 := Lib.hid (Only.trans (Hid.out (by assumption : Hid (Only p gb w _))) (Only.of_below hb1))))
      | (go_at_call 124; ((with_reducible refine (tload (Hid.out (by assumption : Hid (TM _ V S T p gb cap (m) g))) HK.out HX.out H7.out HP.out hm).mono ?_); rintro e w2 ⟨rfl, A2, O2⟩; have HA2 := Lib.hid A2; have HO2 := Lib.hid (Only.trans (Hid.out (by assumption : Hid (Only p gb w _))) O2); rw [HV.out])))
  go_wp2_with fail
  go_ret
  exact ⟨rfl, HA3.out, HO3.out⟩

theorem tload2 (A : TM w V S T p gb cap m g) {x : Nat} (hx : x ≤ nN V S) (hp : isP V x = false) (hm : m ≤ 100000000) :
    Calls Try.prog 124 #[vTr V S T p, .int .i64 (x : Int), .int .i64 2] w (Did V S T p gb cap (m + 1) g (.int .u64 (g x 2 : Int)) w) := tload (k := 2) A kI2 hx (by omega) (fun _ => hp) hm
theorem tload5 (A : TM w V S T p gb cap m g) {x : Nat} (hx : x ≤ nN V S) (hm : m ≤ 100000000) :
    Calls Try.prog 124 #[vTr V S T p, .int .i64 (x : Int), .int .i64 5] w (Did V S T p gb cap (m + 1) g (.int .u64 (g x 5 : Int)) w) := tload (k := 5) A kI5 hx (by omega) (fun e => absurd e (by omega)) hm
theorem tload6 (A : TM w V S T p gb cap m g) {x : Nat} (hx : x ≤ nN V S) (hm : m ≤ 100000000) :
    Calls Try.prog 124 #[vTr V S T p, .int .i64 (x : Int), .int .i64 6] w (Did V S T p gb cap (m + 1) g (.int .u64 (g x 6 : Int)) w) := tload (k := 6) A kI6 hx (by omega) (fun e => absurd e (by omega)) hm
theorem tchild3 (A : TM w V S T p gb cap m g) {x : Nat} (hx : x ≤ nN V S) (hm : m ≤ 100000000) :
    Calls Try.prog 139 #[vTr V S T p, .int .i64 (x : Int), .int .i64 3] w (Did V S T p gb cap (m + 1) g (.int .i64 (g x 3 : Int)) w) := tchild (k := 3) A kI3 hx (.inl rfl) hm
theorem tchild4 (A : TM w V S T p gb cap m g) {x : Nat} (hx : x ≤ nN V S) (hm : m ≤ 100000000) :
    Calls Try.prog 139 #[vTr V S T p, .int .i64 (x : Int), .int .i64 4] w (Did V S T p gb cap (m + 1) g (.int .i64 (g x 4 : Int)) w) := tchild (k := 4) A kI4 hx (.inr rfl) hm

theorem tparent (A : TM w V S T p gb cap m g) {x : Nat} (hx : x ≤ nN V S) (hm : m ≤ 100000000) :
    Calls Try.prog 137 #[vTr V S T p, .int .i64 (x : Int)] w (Did V S T p gb cap (m + 1) g (.int .i64 (g x 2 : Int)) w) := by
  have hy : g x 2 ≤ nN V S := (A.b hx).1
  have yI : ((g x 2 : Nat) : Int) ≤ 560 := by have := nN_le A.hR; omega
  have hw : IntKind.i64.wrap ((g x 2 : Nat) : Int) = ((g x 2 : Nat) : Int) := IntWalk.i64_in _ (by omega)
  have xI : (x : Int) ≤ 560 := by have := nN_le A.hR; omega
  have HX := Lib.hid hx
  have HR := Lib.hid A.hR
  have HY := Lib.hid hy
  have HA := Lib.hid A
  obtain ⟨y, hyv⟩ : ∃ y, g x 2 = y := ⟨_, rfl⟩
  have HV := Lib.hid hyv
  rw [hyv] at yI hw
  rw [hyv] at HY
  rw [hyv]
  by_cases hP : isP V x = true
  · have hx1 : 1 ≤ x := by have := (of_decide_eq_true hP).1; omega
    have HPt := Lib.hid hP
    have HF : Hid (fieldF V S T (x : Int) 2 = (cN V S T x 2 : Int)) := Lib.hid (field_cN HR.out hx1 hx (k := 2) (by omega))
    have HL := Lib.hid (cN_lt HR.out hx1 hx (k := 2) (by omega))
    have HI : Hid (∀ f, Rl V S T f g → IsW (f (cN V S T x 2)) (rO (f (cN V S T x 2))) (y : Int) (rT (f (cN V S T x 2))) (rG (f (cN V S T x 2)))) := Lib.hid fun f r => ⟨rfl, by rw [(r.p x hx1 hx hP).2, hyv], rfl, rfl⟩
    clear hx hy hyv A hP
    generalize hq : cN V S T x 2 = q at HF HL HI
    clear hq
    go_enter Try.func137, Try.ntmps137
    go_wp2_with fail
    have HT : Hid (TB (w.alloc (.cells #[.int .i64 V, .int .i64 S, .int .i64 T, .iface 84 (pmV p), .int .i64 1, .int .i64 0] 32)) w.heap.size V S T p) := Lib.hid (TB.new _ _ _ _ _)
    have HA0 := Lib.hid (HA.out.alloc (.cells #[.int .i64 V, .int .i64 S, .int .i64 T, .iface 84 (pmV p), .int .i64 1, .int .i64 0] 32))
    have HO0 := Lib.hid ((Only.refl p gb w).alloc (.cells #[.int .i64 V, .int .i64 S, .int .i64 T, .iface 84 (pmV p), .int .i64 1, .int .i64 0] 32))
    have HBL : Hid (w.heap.size < (w.alloc (.cells #[.int .i64 V, .int .i64 S, .int .i64 T, .iface 84 (pmV p), .int .i64 1, .int .i64 0] 32)).heap.size) := Lib.hid (by simp)
    generalize hwb : w.heap.size = b at HT HBL ⊢
    generalize hW : w.alloc (.cells #[.int .i64 V, .int .i64 S, .int .i64 T, .iface 84 (pmV p), .int .i64 1, .int .i64 0] 32) = W at HT HA0 HO0 HBL ⊢
    clear hW
    have htb := tb_rule b V S T p
    obtain ⟨y0, y1, y2, y3, y4, y5⟩ := HT.out.cells
    have hlt := HT.out.lt
    refine (isPointer_any HR.out HX.out p _).mono ?_; rintro e w1 ⟨rfl, hb1⟩; rw [HPt.out]
    replace HT := Lib.hid (HT.out.below hb1)
    replace HA0 := Lib.hid (HA0.out.below hb1)
    replace HO0 := Lib.hid (HO0.out.trans (Only.of_below hb1))
    clear hb1 y0 y1 y2 y3 y4 y5 hlt
    obtain ⟨y0, y1, y2, y3, y4, y5⟩ := HT.out.cells
    have hlt := HT.out.lt
    go_wp2_with fail
    obtain ⟨c, f, A1, C1, r1⟩ := HA0.out.ar
    have HAr := Lib.hid A1.drew
    have HC := Lib.hid C1
    have Hr := Lib.hid r1
    clear A1 C1 r1
    have HTd := Lib.hid HT.out.drew
    have HAd := Lib.hid HA0.out.drew
    have HOd := Lib.hid HO0.out.drew
    go_region_held3 (fun W => TB W b V S T p) (first | (with_reducible assumption) | (with_reducible exact TB.below (by assumption) hb1) | (with_reducible exact TB.only (by assumption) (Hid.out (by assumption : Hid (TM _ V S T p gb cap m g))) O2) | (with_reducible exact HTd.out))
      (first
        | (go_at_call 37; ((with_reducible refine (field_yes V S T (x : Int) 2 HR.out (by omega) (by omega) _).mono ?_); rintro e w' ⟨rfl, hb1⟩; rw [HF.out]; have HAf := Lib.hid (TM.below (Hid.out (by assumption : Hid (TM _ V S T p gb cap m g))) hb1); have HOf := Lib.hid (Only.trans (Hid.out (by assumption : Hid (Only p gb w _))) (Only.of_below hb1)); have HAr1 := Lib.hid (HAr.out.below hb1 (Nat.le_refl _))))
        | (go_at_call 144; ((with_reducible refine (new_any HAr1.out HL.out (HI.out f Hr.out) HC.out hm).mono ?_); rintro e w2 ⟨rfl, A2, O2⟩; have HA2 : Hid (TM w2 V S T p gb cap (m + 1) g) := Lib.hid ⟨HR.out, _, _, A2, HC.out.upd 0, Hr.out⟩; have HO2 := Lib.hid (Only.trans (Hid.out (by assumption : Hid (Only p gb w _))) O2)))
        | (go_at_call 143; ((with_reducible refine (tnode_any HR.out HY.out p _).mono ?_); rintro e w' ⟨rfl, hb1⟩; have HA3 := Lib.hid (TM.below (Hid.out (by assumption : Hid (TM _ V S T p gb cap (m + 1) g))) hb1); have HO3 := Lib.hid (Only.trans (Hid.out (by assumption : Hid (Only p gb w _))) (Only.of_below hb1)))))
    go_wp2_with fail
    go_ret
    exact ⟨rfl, HA3.out, HO3.out⟩
  · have hP' : isP V x = false := by simpa using hP
    have HPt := Lib.hid hP'
    clear hx hy hyv A hP hP'
    go_enter Try.func137, Try.ntmps137
    go_wp2_with fail
    have HT : Hid (TB (w.alloc (.cells #[.int .i64 V, .int .i64 S, .int .i64 T, .iface 84 (pmV p), .int .i64 1, .int .i64 0] 32)) w.heap.size V S T p) := Lib.hid (TB.new _ _ _ _ _)
    have HA0 := Lib.hid (HA.out.alloc (.cells #[.int .i64 V, .int .i64 S, .int .i64 T, .iface 84 (pmV p), .int .i64 1, .int .i64 0] 32))
    have HO0 := Lib.hid ((Only.refl p gb w).alloc (.cells #[.int .i64 V, .int .i64 S, .int .i64 T, .iface 84 (pmV p), .int .i64 1, .int .i64 0] 32))
    have HBL : Hid (w.heap.size < (w.alloc (.cells #[.int .i64 V, .int .i64 S, .int .i64 T, .iface 84 (pmV p), .int .i64 1, .int .i64 0] 32)).heap.size) := Lib.hid (by simp)
    generalize hwb : w.heap.size = b at HT HBL ⊢
    generalize hW : w.alloc (.cells #[.int .i64 V, .int .i64 S, .int .i64 T, .iface 84 (pmV p), .int .i64 1, .int .i64 0] 32) = W at HT HA0 HO0 HBL ⊢
    clear hW
    have htb := tb_rule b V S T p
    obtain ⟨y0, y1, y2, y3, y4, y5⟩ := HT.out.cells
    have hlt := HT.out.lt
    refine (isPointer_any HR.out HX.out p _).mono ?_; rintro e w1 ⟨rfl, hb1⟩; rw [HPt.out]
    replace HT := Lib.hid (HT.out.below hb1)
    replace HA0 := Lib.hid (HA0.out.below hb1)
    replace HO0 := Lib.hid (HO0.out.trans (Only.of_below hb1))
    clear hb1 y0 y1 y2 y3 y4 y5 hlt
    obtain ⟨y0, y1, y2, y3, y4, y5⟩ := HT.out.cells
    have hlt := HT.out.lt
    go_wp2_with fail
    have HTd := Lib.hid HT.out.drew
    have HAd := Lib.hid HA0.out.drew
    have HOd := Lib.hid HO0.out.drew
    go_region_held3 (fun W => TB W b V S T p) (first | (with_reducible assumption) | (with_reducible exact TB.below (by assumption) hb1) | (with_reducible exact TB.only (by assumption) (Hid.out (by assumption : Hid (TM _ V S T p gb cap (m) g))) O2) | (with_reducible exact HTd.out))
      (first
        | (go_at_call 143; ((with_reducible refine (tnode_any HR.out HY.out p _).mono ?_); rintro e w' ⟨rfl, hb1⟩; have HA3 := Lib.hid (TM.below (Hid.out (by assumption : Hid (TM _ V S T p gb cap (m + 1) g))) hb1); have HO3 := Lib.hid (Only.trans (Hid.out (by assumption : Hid (Only p gb w _))) (Only.of_below hb1))))
        | (go_at_call 124; ((with_reducible refine (tload2 (Hid.out (by assumption : Hid (TM _ V S T p gb cap (m) g))) HX.out HPt.out hm).mono ?_); rintro e w2 ⟨rfl, A2, O2⟩; have HA2 := Lib.hid A2; have HO2 := Lib.hid (Only.trans (Hid.out (by assumption : Hid (Only p gb w _))) O2); rw [HV.out])))
    go_wp2_with fail
    go_ret
    exact ⟨rfl, HA3.out, HO3.out⟩

theorem setP_b {n : Nat} {x v : Nat} (hb : ∀ y, y ≤ n → g y 2 ≤ n ∧ g y 3 ≤ n ∧ g y 4 ≤ n) (hv : v ≤ n) : ∀ y, y ≤ n → setP g x v y 2 ≤ n ∧ setP g x v y 3 ≤ n ∧ setP g x v y 4 ≤ n := by
  unfold setP; split
  · exact hb
  · exact up2_b hb fun _ => hv

theorem isW_wrO {v y : Int} (h0 : 0 ≤ y) (h1 : y ≤ 65535) : rightW (wrO (rO v) (rN v) (rT v) (rG v) 1 0) y 1 0 = true := by
  obtain ⟨a1, a2, a3, a4, _⟩ := right_bd (isW_any v).right
  unfold wrO
  split
  · exact right_pen a1 a2 h0 h1
  · exact right_pen a3 a4 h0 h1

set_option maxHeartbeats 1000000 in
theorem tsetParent (A : TM w V S T p gb cap m g) {x v : Nat} (hx : x ≤ nN V S) (hv : v ≤ nN V S) (hm : m ≤ 99999990) :
    Calls Try.prog 98 #[vTr V S T p, .int .i64 (x : Int), .int .i64 (v : Int)] w (Did V S T p gb cap (m + 2) (setP g x v) (.tuple #[]) w) := by
  have xI : (x : Int) ≤ 560 := by have := nN_le A.hR; omega
  have vI : (v : Int) ≤ 560 := by have := nN_le A.hR; omega
  have hw : IntKind.u64.wrap (v : Int) = (v : Int) := IntWalk.u64_in _ (by omega)
  have HX := Lib.hid hx
  have HR := Lib.hid A.hR
  have HV := Lib.hid hv
  have HA := Lib.hid A
  by_cases hP : isP V x = true
  · have hx1 : 1 ≤ x := by have := (of_decide_eq_true hP).1; omega
    have HPt := Lib.hid hP
    have HF : Hid (fieldF V S T (x : Int) 2 = (cN V S T x 2 : Int)) := Lib.hid (field_cN HR.out hx1 hx (k := 2) (by omega))
    have HL := Lib.hid (cN_lt HR.out hx1 hx (k := 2) (by omega))
    have HI : Hid (∀ f, Rl V S T f g → rightV (f (cN V S T x 2)) = true) := Lib.hid fun f r => (r.p x hx1 hx hP).1
    have HN : Hid (∀ f, Rl V S T f g → Rl V S T (upd f (cN V S T x 2) (bitsW (wrO (rO (f (cN V S T x 2))) (rN (f (cN V S T x 2))) (rT (f (cN V S T x 2))) (rG (f (cN V S T x 2))) 1 0) (v : Int) 1 0)) (setP g x v)) := Lib.hid fun f r => by
      have h := isW_bits (isW_wrO (v := f (cN V S T x 2)) (y := (v : Int)) (by omega) (by omega))
      rw [show setP g x v = up2 g x 2 v from if_neg (by omega)]
      exact r.par_p HR.out hx1 hx hP hv h.2 h.1.n
    clear hx hv A hP
    generalize hq : cN V S T x 2 = q at HF HL HI HN
    clear hq
    go_enter Try.func98, Try.ntmps98
    go_wp2_with fail
    have HT : Hid (TB (w.alloc (.cells #[.int .i64 V, .int .i64 S, .int .i64 T, .iface 84 (pmV p), .int .i64 1, .int .i64 0] 32)) w.heap.size V S T p) := Lib.hid (TB.new _ _ _ _ _)
    have HA0 := Lib.hid (HA.out.alloc (.cells #[.int .i64 V, .int .i64 S, .int .i64 T, .iface 84 (pmV p), .int .i64 1, .int .i64 0] 32))
    have HO0 := Lib.hid ((Only.refl p gb w).alloc (.cells #[.int .i64 V, .int .i64 S, .int .i64 T, .iface 84 (pmV p), .int .i64 1, .int .i64 0] 32))
    have HBL : Hid (w.heap.size < (w.alloc (.cells #[.int .i64 V, .int .i64 S, .int .i64 T, .iface 84 (pmV p), .int .i64 1, .int .i64 0] 32)).heap.size) := Lib.hid (by simp)
    generalize hwb : w.heap.size = b at HT HBL ⊢
    generalize hW : w.alloc (.cells #[.int .i64 V, .int .i64 S, .int .i64 T, .iface 84 (pmV p), .int .i64 1, .int .i64 0] 32) = W at HT HA0 HO0 HBL ⊢
    clear hW
    have htb := tb_rule b V S T p
    obtain ⟨y0, y1, y2, y3, y4, y5⟩ := HT.out.cells
    have hlt := HT.out.lt
    refine (isPointer_any HR.out HX.out p _).mono ?_; rintro e w1 ⟨rfl, hb1⟩; rw [HPt.out]
    replace HT := Lib.hid (HT.out.below hb1)
    replace HA0 := Lib.hid (HA0.out.below hb1)
    replace HO0 := Lib.hid (HO0.out.trans (Only.of_below hb1))
    clear hb1 y0 y1 y2 y3 y4 y5 hlt
    obtain ⟨y0, y1, y2, y3, y4, y5⟩ := HT.out.cells
    have hlt := HT.out.lt
    go_wp2_with fail
    obtain ⟨c, f, A1, C1, r1⟩ := HA0.out.ar
    have HAr := Lib.hid A1.drew
    have HC := Lib.hid C1
    have Hr := Lib.hid r1
    have HW := Lib.hid (isW_wrO (v := f q) (y := (v : Int)) (by omega) (by omega))
    clear A1 C1 r1
    have HTd := Lib.hid HT.out.drew
    have HAd := Lib.hid HA0.out.drew
    have HOd := Lib.hid HO0.out.drew
    go_region_held3 (fun W => TB W b V S T p) (first | (with_reducible assumption) | (with_reducible exact TB.below (by assumption) hb1) | (with_reducible exact TB.only (by assumption) (Hid.out (by assumption : Hid (TM _ V S T p gb cap m g))) O2) | (with_reducible exact HTd.out))
      (first
        | (go_at_call 37; ((with_reducible refine (field_yes V S T (x : Int) 2 HR.out (by omega) (by omega) _).mono ?_); rintro e w' ⟨rfl, hb1⟩; rw [HF.out]; have HAf := Lib.hid (TM.below (Hid.out (by assumption : Hid (TM _ V S T p gb cap m g))) hb1); have HOf := Lib.hid (Only.trans (Hid.out (by assumption : Hid (Only p gb w _))) (Only.of_below hb1)); have HAr1 := Lib.hid (HAr.out.below hb1 (Nat.le_refl _))))
        | (go_at_call 126; ((with_reducible refine (write_yes HAr1.out HL.out (isW_any _) (HI.out f Hr.out) HW.out HC.out hm).mono ?_); rintro e w2 ⟨rfl, A2, O2⟩; have HA2 : Hid (TM w2 V S T p gb cap (m + 2) (setP g x v)) := Lib.hid ⟨HR.out, _, _, A2, (HC.out.upd 0).upd 1, HN.out f Hr.out⟩; have HO2 := Lib.hid (Only.trans (Hid.out (by assumption : Hid (Only p gb w _))) O2))))
    go_wp2_with fail
    go_end0
    exact ⟨rfl, HA2.out, HO2.out⟩
  · have hP' : isP V x = false := by simpa using hP
    have HPt := Lib.hid hP'
    by_cases h0 : x = 0
    · have HE : Hid (setP g x v = g) := Lib.hid (if_pos h0)
      have HF := Lib.hid (field_none V S T h0 2)
      rw [HE.out]
      clear hx hv A hP hP' h0
      go_enter Try.func98, Try.ntmps98
      go_wp2_with fail
      have HT : Hid (TB (w.alloc (.cells #[.int .i64 V, .int .i64 S, .int .i64 T, .iface 84 (pmV p), .int .i64 1, .int .i64 0] 32)) w.heap.size V S T p) := Lib.hid (TB.new _ _ _ _ _)
      have HA0 := Lib.hid (HA.out.alloc (.cells #[.int .i64 V, .int .i64 S, .int .i64 T, .iface 84 (pmV p), .int .i64 1, .int .i64 0] 32))
      have HO0 := Lib.hid ((Only.refl p gb w).alloc (.cells #[.int .i64 V, .int .i64 S, .int .i64 T, .iface 84 (pmV p), .int .i64 1, .int .i64 0] 32))
      have HBL : Hid (w.heap.size < (w.alloc (.cells #[.int .i64 V, .int .i64 S, .int .i64 T, .iface 84 (pmV p), .int .i64 1, .int .i64 0] 32)).heap.size) := Lib.hid (by simp)
      generalize hwb : w.heap.size = b at HT HBL ⊢
      generalize hW : w.alloc (.cells #[.int .i64 V, .int .i64 S, .int .i64 T, .iface 84 (pmV p), .int .i64 1, .int .i64 0] 32) = W at HT HA0 HO0 HBL ⊢
      clear hW
      have htb := tb_rule b V S T p
      obtain ⟨y0, y1, y2, y3, y4, y5⟩ := HT.out.cells
      have hlt := HT.out.lt
      refine (isPointer_any HR.out HX.out p _).mono ?_; rintro e w1 ⟨rfl, hb1⟩; rw [HPt.out]
      replace HT := Lib.hid (HT.out.below hb1)
      replace HA0 := Lib.hid (HA0.out.below hb1)
      replace HO0 := Lib.hid (HO0.out.trans (Only.of_below hb1))
      clear hb1 y0 y1 y2 y3 y4 y5 hlt
      obtain ⟨y0, y1, y2, y3, y4, y5⟩ := HT.out.cells
      have hlt := HT.out.lt
      go_wp2_with fail
      refine (store_none HR.out HX.out HF.out p v _).mono ?_; rintro e w2 ⟨rfl, hb2⟩
      have HA2 := Lib.hid ((HA0.out.below hb2).more (m' := m + 2) (by omega))
      have HO2 := Lib.hid (HO0.out.trans (Only.of_below hb2))
      go_wp2_with fail
      go_end0
      exact ⟨rfl, HA2.out, HO2.out⟩
    · have HE : Hid (setP g x v = up2 g x 2 v) := Lib.hid (if_neg h0)
      have H0 : Hid (1 ≤ x) := Lib.hid (by omega)
      have H7 : Hid (v ≤ 18446744073709551615) := Lib.hid (by omega)
      rw [HE.out]
      clear hx hv A hP hP' h0
      go_enter Try.func98, Try.ntmps98
      go_wp2_with fail
      have HT : Hid (TB (w.alloc (.cells #[.int .i64 V, .int .i64 S, .int .i64 T, .iface 84 (pmV p), .int .i64 1, .int .i64 0] 32)) w.heap.size V S T p) := Lib.hid (TB.new _ _ _ _ _)
      have HA0 := Lib.hid (HA.out.alloc (.cells #[.int .i64 V, .int .i64 S, .int .i64 T, .iface 84 (pmV p), .int .i64 1, .int .i64 0] 32))
      have HO0 := Lib.hid ((Only.refl p gb w).alloc (.cells #[.int .i64 V, .int .i64 S, .int .i64 T, .iface 84 (pmV p), .int .i64 1, .int .i64 0] 32))
      have HBL : Hid (w.heap.size < (w.alloc (.cells #[.int .i64 V, .int .i64 S, .int .i64 T, .iface 84 (pmV p), .int .i64 1, .int .i64 0] 32)).heap.size) := Lib.hid (by simp)
      generalize hwb : w.heap.size = b at HT HBL ⊢
      generalize hW : w.alloc (.cells #[.int .i64 V, .int .i64 S, .int .i64 T, .iface 84 (pmV p), .int .i64 1, .int .i64 0] 32) = W at HT HA0 HO0 HBL ⊢
      clear hW
      have htb := tb_rule b V S T p
      obtain ⟨y0, y1, y2, y3, y4, y5⟩ := HT.out.cells
      have hlt := HT.out.lt
      refine (isPointer_any HR.out HX.out p _).mono ?_; rintro e w1 ⟨rfl, hb1⟩; rw [HPt.out]
      replace HT := Lib.hid (HT.out.below hb1)
      replace HA0 := Lib.hid (HA0.out.below hb1)
      replace HO0 := Lib.hid (HO0.out.trans (Only.of_below hb1))
      clear hb1 y0 y1 y2 y3 y4 y5 hlt
      obtain ⟨y0, y1, y2, y3, y4, y5⟩ := HT.out.cells
      have hlt := HT.out.lt
      go_wp2_with fail
      refine (tstore (k := 2) HA0.out kI2 HX.out H0.out (by omega) (fun _ => HPt.out) (fun _ => HV.out) H7.out (by omega)).mono ?_; rintro e w2 ⟨rfl, A2, O2⟩
      have HA2 := Lib.hid (A2.more (m' := m + 2) (by omega))
      have HO2 := Lib.hid (HO0.out.trans O2)
      go_wp2_with fail
      go_end0
      exact ⟨rfl, HA2.out, HO2.out⟩

end

end Go.Proofs.Ytaooglagddphnaa

/- Contracts of sum, children, above, Size, Vertices, markBit, Marked. Printed by wip/tools/trpf.py. -/
namespace Go.Proofs.Ytaooglagddphnaa
open Go.RowKit

set_option maxRecDepth 100000

theorem sum_bits {s : Nat} (h : s ≤ 18446744073709551615) : bits .and .u64 (s : Int) 65535 = (nS s : Int) ∧ bits .and .u64 ((s : Int) / 65536) 65535 = (vS s : Int) ∧ bits .and .u64 ((s : Int) / 4294967296) 3 = (oS s : Int) ∧ bits .and .u64 ((s : Int) / 17179869184) 3 = (aS s : Int) :=
  ⟨and_nat 16 65536 65535 s rfl rfl (by omega) (by omega),
   (by rw [show (s : Int) / 65536 = ((s / 65536 : Nat) : Int) by omega]; exact and_nat 16 65536 65535 (s / 65536) rfl rfl (by omega) (by omega)),
   (by rw [show (s : Int) / 4294967296 = ((s / 4294967296 : Nat) : Int) by omega]; exact and_nat 2 4 3 (s / 4294967296) rfl rfl (by omega) (by omega)),
   (by rw [show (s : Int) / 17179869184 = ((s / 17179869184 : Nat) : Int) by omega]; exact and_nat 2 4 3 (s / 17179869184) rfl rfl (by omega) (by omega))⟩

/-- A sum's value. -/
abbrev vSm (s : Nat) : Value := .agg #[.int .u64 (nS s : Int), .int .u64 (vS s : Int), .int .u64 (oS s : Int), .int .u64 (aS s : Int)]
theorem sm_field0 (s : Nat) (W : World) : (Instr.field 149 (vSm s) 0).run Try.prog W = .ok (.int .u64 (nS s : Int)) W := by kernel_rfl
theorem sm_field1 (s : Nat) (W : World) : (Instr.field 149 (vSm s) 1).run Try.prog W = .ok (.int .u64 (vS s : Int)) W := by kernel_rfl
theorem sm_field2 (s : Nat) (W : World) : (Instr.field 149 (vSm s) 2).run Try.prog W = .ok (.int .u64 (oS s : Int)) W := by kernel_rfl

/-- A block of two numbers, beside trees. -/
def PB (W : World) (c : Nat) : Prop := ∃ a b, Blk W c 97 #[a, b]
structure TC (W : World) (b c : Nat) (V S T : Int) (p : Nat) : Prop where
  t : TB W b V S T p
  r : PB W c

section
variable {V S T : Int} {g : Mg9} {w w' : World} {p gb cap m : Nat}

theorem TC.below {b c : Nat} (h : TC w b c V S T p) (hb : Below w.heap.size w w') : TC w' b c V S T p := by
  obtain ⟨t, a, d, r⟩ := h
  exact ⟨t.below hb, a, d, r.below hb r.lt⟩
theorem TC.only {b c : Nat} (h : TC w b c V S T p) (A : TM w V S T p gb cap m g) (ho : Only p gb w w') : TC w' b c V S T p := by
  obtain ⟨t, a, d, r⟩ := h
  exact ⟨t.only A ho, a, d, r.treap A ho (by decide) (by decide)⟩
theorem TC.drew {b c : Nat} (h : TC w b c V S T p) : TC w.drew b c V S T p := h.below (Below.refl _ _).drew
theorem TC.set {b c : Nat} (h : TC w b c V S T p) (u v : Value) : TC ((w.setCell ⟨c, 0, none⟩ u).setCell ⟨c, 1, none⟩ v) b c V S T p := by
  obtain ⟨t, a, d, r⟩ := h
  have hne : b ≠ c := Blk.ne_ t r (by decide)
  exact ⟨Blk.far (Blk.far t hne u) hne v, u, v, (r.set_ 0 u).set_ 1 v⟩
theorem TC.set1 {b c : Nat} (h : TC w b c V S T p) (u : Value) : TC (w.setCell ⟨c, 0, none⟩ u) b c V S T p := by
  obtain ⟨t, a, d, r⟩ := h
  have hne : b ≠ c := Blk.ne_ t r (by decide)
  exact ⟨Blk.far t hne u, u, d, r.set_ 0 u⟩
theorem tc_rule (b c : Nat) (V S T : Int) (p : Nat) : ∀ W : World, TC W b c V S T p → W.cell? ⟨b, 0, none⟩ = some (.int .i64 V) ∧ W.cell? ⟨b, 1, none⟩ = some (.int .i64 S) ∧ W.cell? ⟨b, 2, none⟩ = some (.int .i64 T) ∧ W.cell? ⟨b, 3, none⟩ = some (.iface 84 (pmV p)) ∧ W.cell? ⟨b, 4, none⟩ = some (.int .i64 1) ∧ W.cell? ⟨b, 5, none⟩ = some (.int .i64 0) ∧ W.cell? ⟨c, 0, none⟩ = some (zAt W c 0) ∧ W.cell? ⟨c, 1, none⟩ = some (zAt W c 1) ∧ W.frozen? ⟨c, 0, none⟩ = false ∧ W.frozen? ⟨c, 1, none⟩ = false := fun W h => by
  obtain ⟨y0, y1, y2, y3, y4, y5⟩ := h.t.cells
  obtain ⟨_, a, d, r⟩ := h
  have e0 := r.cell 0
  have e1 := r.cell 1
  exact ⟨y0, y1, y2, y3, y4, y5, by unfold zAt; rw [e0]; rfl, by unfold zAt; rw [e1]; rfl, r.frozen 0, r.frozen 1⟩

theorem tsum (A : TM w V S T p gb cap m g) {x : Nat} (hx : x ≤ nN V S) (hm : m ≤ 100000000) :
    Calls Try.prog 94 #[vTr V S T p, .int .i64 (x : Int)] w (Did V S T p gb cap (m + 1) g (vSm (g x 6)) w) := by
  have fit := A.fit (k := 6) hx (by omega) (by omega)
  obtain ⟨q1, q2, q3, q4⟩ := sum_bits fit
  have HX := Lib.hid hx
  have HA := Lib.hid A
  have fI : (g x 6 : Int) ≤ 18446744073709551615 := by omega
  obtain ⟨s, hs⟩ : ∃ s, g x 6 = s := ⟨_, rfl⟩
  have HV := Lib.hid hs
  rw [hs] at q1 q2 q3 q4 fI
  rw [hs]
  clear hx A fit hs
  go_enter Try.func94, Try.ntmps94
  go_wp2_with fail
  have HT : Hid (TB (w.alloc (.cells #[.int .i64 V, .int .i64 S, .int .i64 T, .iface 84 (pmV p), .int .i64 1, .int .i64 0] 32)) w.heap.size V S T p) := Lib.hid (TB.new _ _ _ _ _)
  have HA0 := Lib.hid (HA.out.alloc (.cells #[.int .i64 V, .int .i64 S, .int .i64 T, .iface 84 (pmV p), .int .i64 1, .int .i64 0] 32))
  have HO0 := Lib.hid ((Only.refl p gb w).alloc (.cells #[.int .i64 V, .int .i64 S, .int .i64 T, .iface 84 (pmV p), .int .i64 1, .int .i64 0] 32))
  have HS0 : Hid (Blk ((w.alloc (.cells #[.int .i64 V, .int .i64 S, .int .i64 T, .iface 84 (pmV p), .int .i64 1, .int .i64 0] 32)).alloc (.cells #[.int .u64 0, .int .u64 0, .int .u64 0, .int .u64 0] 149)) (w.heap.size + 1) 149 #[.int .u64 0, .int .u64 0, .int .u64 0, .int .u64 0]) := Lib.hid (new_next w _ _ _ _)
  replace HT := Lib.hid (HT.out.alloc (.cells #[.int .u64 0, .int .u64 0, .int .u64 0, .int .u64 0] 149))
  replace HA0 := Lib.hid (HA0.out.alloc (.cells #[.int .u64 0, .int .u64 0, .int .u64 0, .int .u64 0] 149))
  replace HO0 := Lib.hid (HO0.out.alloc (.cells #[.int .u64 0, .int .u64 0, .int .u64 0, .int .u64 0] 149))
  generalize hwb : w.heap.size = b at HT HS0 ⊢
  generalize hW : (w.alloc (.cells #[.int .i64 V, .int .i64 S, .int .i64 T, .iface 84 (pmV p), .int .i64 1, .int .i64 0] 32)).alloc (.cells #[.int .u64 0, .int .u64 0, .int .u64 0, .int .u64 0] 149) = W at HT HA0 HO0 HS0 ⊢
  clear hW
  have htb := tb_rule b V S T p
  obtain ⟨y0, y1, y2, y3, y4, y5⟩ := HT.out.cells
  have hlt := HT.out.lt
  refine (tload6 HA0.out HX.out hm).mono ?_; rintro e w1 ⟨rfl, A1, O1⟩; rw [HV.out]
  have HS1 := Lib.hid (HS0.out.treap HA0.out O1 (by decide) (by decide))
  have HA1 := Lib.hid A1
  have HO1 := Lib.hid (HO0.out.trans O1)
  have hs0 := HS1.out.cell 0
  have hs1 := HS1.out.cell 1
  have hs2 := HS1.out.cell 2
  have hs3 := HS1.out.cell 3
  have hsf := HS1.out.frozen
  clear A1 O1
  go_wp2_with fail
  have hA2 := ((((HA1.out.far HS1.out (by decide) (by decide) (j := 0) (.int .u64 (nS s : Int))).far (HS1.out.set_ 0 _) (by decide) (by decide) (j := 1) (.int .u64 (vS s : Int))).far ((HS1.out.set_ 0 _).set_ 1 _) (by decide) (by decide) (j := 2) (.int .u64 (oS s : Int))).far (((HS1.out.set_ 0 _).set_ 1 _).set_ 2 _) (by decide) (by decide) (j := 3) (.int .u64 (aS s : Int)))
  have HS2 := ((((HS1.out.set_ 0 (.int .u64 (nS s : Int))).set_ 1 (.int .u64 (vS s : Int))).set_ 2 (.int .u64 (oS s : Int))).set_ 3 (.int .u64 (aS s : Int)))
  have e0 := HS2.cell 0
  have e1 := HS2.cell 1
  have e2 := HS2.cell 2
  have e3 := HS2.cell 3
  exact bodyPost_ret (v := vSm s) (by simp [results, Try.results94, go_sem, e0, e1, e2, e3]) rfl ⟨rfl, hA2, (((HO1.out.set_new (by omega) _).set_new (by omega) _).set_new (by omega) _).set_new (by omega) _⟩

set_option maxHeartbeats 1000000 in
theorem tchildren (A : TM w V S T p gb cap m g) {x : Nat} (hx : x ≤ nN V S) (hm : m ≤ 99999999) :
    Calls Try.prog 127 #[vTr V S T p, .int .i64 (x : Int)] w (Did V S T p gb cap (m + 2) g (.agg #[.int .i64 (g x 3 : Int), .int .i64 (g x 4 : Int)]) w) := by
  have hm' : m + 1 ≤ 100000000 := by omega
  replace hm : m ≤ 100000000 := by omega
  have HX := Lib.hid hx
  have HA := Lib.hid A
  obtain ⟨l, hl⟩ : ∃ l, g x 3 = l := ⟨_, rfl⟩
  obtain ⟨r, hr⟩ : ∃ r, g x 4 = r := ⟨_, rfl⟩
  have HL := Lib.hid hl
  have HRr := Lib.hid hr
  rw [hl, hr]
  clear hx A hl hr
  go_enter Try.func127, Try.ntmps127
  go_wp2_with fail
  have HT : Hid (TB (w.alloc (.cells #[.int .i64 V, .int .i64 S, .int .i64 T, .iface 84 (pmV p), .int .i64 1, .int .i64 0] 32)) w.heap.size V S T p) := Lib.hid (TB.new _ _ _ _ _)
  have HA0 := Lib.hid (HA.out.alloc (.cells #[.int .i64 V, .int .i64 S, .int .i64 T, .iface 84 (pmV p), .int .i64 1, .int .i64 0] 32))
  have HO0 := Lib.hid ((Only.refl p gb w).alloc (.cells #[.int .i64 V, .int .i64 S, .int .i64 T, .iface 84 (pmV p), .int .i64 1, .int .i64 0] 32))
  have HS0 : Hid (Blk ((w.alloc (.cells #[.int .i64 V, .int .i64 S, .int .i64 T, .iface 84 (pmV p), .int .i64 1, .int .i64 0] 32)).alloc (.cells #[.int .i64 0, .int .i64 0] 97)) (w.heap.size + 1) 97 #[.int .i64 0, .int .i64 0]) := Lib.hid (new_next w _ _ _ _)
  replace HT := Lib.hid (HT.out.alloc (.cells #[.int .i64 0, .int .i64 0] 97))
  replace HA0 := Lib.hid (HA0.out.alloc (.cells #[.int .i64 0, .int .i64 0] 97))
  replace HO0 := Lib.hid (HO0.out.alloc (.cells #[.int .i64 0, .int .i64 0] 97))
  generalize hwb : w.heap.size = b at HT HS0 ⊢
  generalize hW : (w.alloc (.cells #[.int .i64 V, .int .i64 S, .int .i64 T, .iface 84 (pmV p), .int .i64 1, .int .i64 0] 32)).alloc (.cells #[.int .i64 0, .int .i64 0] 97) = W at HT HA0 HO0 HS0 ⊢
  clear hW
  have htb := tb_rule b V S T p
  obtain ⟨y0, y1, y2, y3, y4, y5⟩ := HT.out.cells
  have hlt := HT.out.lt
  have HTC : Hid (TC W b (b + 1) V S T p) := Lib.hid ⟨HT.out, _, _, HS0.out⟩
  have HTd := Lib.hid HTC.out.drew
  have HAd := Lib.hid HA0.out.drew
  have HOd := Lib.hid HO0.out.drew
  have htc := tc_rule b (b + 1) V S T p
  have e0 := HS0.out.cell 0
  have e1 := HS0.out.cell 1
  have e2 := HS0.out.frozen
  clear htb
  go_region_held3 (fun W => TC W b (b + 1) V S T p) (first | (with_reducible assumption) | (with_reducible exact TC.set (by assumption) _ _) | (with_reducible exact TC.only (by assumption) (Hid.out (by assumption : Hid (TM _ V S T p gb cap m g))) O2) | (with_reducible exact TC.only (by assumption) (Hid.out (by assumption : Hid (TM _ V S T p gb cap (m + 1) g))) O2) | (with_reducible exact HTd.out))
    (first
      | (go_at_call 139; ((with_reducible refine (tchild3 (Hid.out (by assumption : Hid (TM _ V S T p gb cap (m) g))) HX.out hm).mono ?_); rintro e w2 ⟨rfl, A2, O2⟩; have HA2 := Lib.hid A2; have HO2 := Lib.hid (Only.trans (Hid.out (by assumption : Hid (Only p gb w _))) O2); rw [HL.out]; have HT2 := Lib.hid (TC.only (by assumption) (Hid.out (by assumption : Hid (TM _ V S T p gb cap (m) g))) O2)))
      | (go_at_call 139; ((with_reducible refine (tchild3 (Hid.out (by assumption : Hid (TM _ V S T p gb cap (m + 1) g))) HX.out hm').mono ?_); rintro e w2 ⟨rfl, A2, O2⟩; have HA3 := Lib.hid A2; have HO3 := Lib.hid (Only.trans (Hid.out (by assumption : Hid (Only p gb w _))) O2); rw [HL.out]; have HT2 := Lib.hid (TC.only (by assumption) (Hid.out (by assumption : Hid (TM _ V S T p gb cap (m + 1) g))) O2)))
      | (go_at_call 139; ((with_reducible refine (tchild4 (Hid.out (by assumption : Hid (TM _ V S T p gb cap (m) g))) HX.out hm).mono ?_); rintro e w2 ⟨rfl, A2, O2⟩; have HA2 := Lib.hid A2; have HO2 := Lib.hid (Only.trans (Hid.out (by assumption : Hid (Only p gb w _))) O2); rw [HRr.out]; have HT2 := Lib.hid (TC.only (by assumption) (Hid.out (by assumption : Hid (TM _ V S T p gb cap (m) g))) O2)))
      | (go_at_call 139; ((with_reducible refine (tchild4 (Hid.out (by assumption : Hid (TM _ V S T p gb cap (m + 1) g))) HX.out hm').mono ?_); rintro e w2 ⟨rfl, A2, O2⟩; have HA3 := Lib.hid A2; have HO3 := Lib.hid (Only.trans (Hid.out (by assumption : Hid (Only p gb w _))) O2); rw [HRr.out]; have HT2 := Lib.hid (TC.only (by assumption) (Hid.out (by assumption : Hid (TM _ V S T p gb cap (m + 1) g))) O2))))
  all_goals
    obtain ⟨_, a0, b0, hblk⟩ := HT2.out
    have HS2 := (hblk.set_ 0 (.int .i64 (l : Int))).set_ 1 (.int .i64 (r : Int))
    have f0 := HS2.cell 0
    have f1 := HS2.cell 1
    have hA2 := (HA3.out.far hblk (by decide) (by decide) (j := 0) (.int .i64 (l : Int))).far (hblk.set_ 0 _) (by decide) (by decide) (j := 1) (.int .i64 (r : Int))
    clear htc
    go_wp2_with fail
    exact bodyPost_ret (v := .agg #[.int .i64 (l : Int), .int .i64 (r : Int)]) (by simp [results, Try.results127, go_sem, f0, f1]) rfl ⟨rfl, hA2, (HO3.out.set_new (by omega) _).set_new (by omega) _⟩

end

end Go.Proofs.Ytaooglagddphnaa

/- Contracts of above, Size, Vertices, markBit, Marked. Printed by wip/tools/trpg.py. -/
namespace Go.Proofs.Ytaooglagddphnaa
open Go.RowKit

set_option maxRecDepth 100000

theorem nS_lt (s : Nat) : nS s < 65536 := Nat.mod_lt _ (by omega)
theorem vS_lt (s : Nat) : vS s < 65536 := Nat.mod_lt _ (by omega)
theorem oS_lt (s : Nat) : oS s < 4 := Nat.mod_lt _ (by omega)
theorem aS_lt (s : Nat) : aS s < 4 := Nat.mod_lt _ (by omega)

/-- A mark's bit. -/
def bt (m : Nat) : Nat := if m = 0 then 1 else 2
def hasB (s m : Nat) : Bool := decide (s / 2 ^ m % 2 = 1)
theorem and_bt {s k : Nat} (hs : s < 4) (hk : k < 2) : (bits .and .u64 (s : Int) (bt k : Int) == 0) = !hasB s k := by
  have hb : bt k < 4 := by unfold bt; split <;> omega
  rw [u64_and_nat _ _ (by omega) (by omega)]
  have key : ∀ s < 4, ∀ k < 2, (((s &&& bt k : Nat) : Int) == 0) = !hasB s k := by decide
  exact key s hs k hk
theorem and_bt0 {s : Nat} (hs : s < 4) : bits .and .u64 (s : Int) 0 = 0 := by
  rw [show (0 : Int) = ((0 : Nat) : Int) from rfl, u64_and_nat _ _ (by omega) (by omega)]
  simp
def setB (s k : Nat) (on : Bool) : Nat := if on then s ||| bt k else s &&& (3 - bt k)
theorem or_bt {s : Nat} (k : Nat) (hs : s < 4) : bits .or .u64 (s : Int) (bt k : Int) = (setB s k true : Int) := by
  have hb : bt k < 4 := by unfold bt; split <;> omega
  rw [u64_or_nat _ _ (by omega) (by omega)]; rfl
theorem andNot_bt {s k : Nat} (hs : s < 4) (hk : k < 2) : bits .andNot .u64 (s : Int) (bt k : Int) = (setB s k false : Int) := by
  have hb : bt k < 4 := by unfold bt; split <;> omega
  refine (u64_andNot_nat s (bt k) (by omega) (by omega)).trans ?_
  have key : ∀ s < 4, ∀ k < 2, s &&& (18446744073709551615 - bt k) = setB s k false := by decide
  rw [key s hs k hk]
theorem setB_lt {s k : Nat} {on : Bool} (hs : s < 4) (hk : k < 2) : setB s k on < 4 := by
  have key : ∀ s < 4, ∀ k < 2, ∀ on : Bool, setB s k on < 4 := by decide
  exact key s hs k hk on

section
variable {V S T : Int} {g : Mg9} {w w' : World} {p gb cap m : Nat}

theorem tmarkBit {k : Nat} (hk : k < 2) (w : World) : Calls Try.prog 95 #[.int .i64 (k : Int)] w fun e w' => e = .returned (.int .u64 (bt k : Int)) ∧ w = w' := by
  have : k = 0 ∨ k = 1 := by omega
  rcases this with rfl | rfl
  · go_enter Try.func95, Try.ntmps95
    go_wp2_with fail
    go_ret
    exact ⟨rfl, rfl⟩
  · go_enter Try.func95, Try.ntmps95
    go_wp2_with fail
    go_ret
    exact ⟨rfl, rfl⟩

theorem tmarked (A : TM w V S T p gb cap m g) {x k : Nat} (hx : x ≤ nN V S) (hk : k < 2) (hm : m ≤ 100000000) :
    Calls Try.prog 40 #[vTr V S T p, .int .i64 (x : Int), .int .i64 (k : Int)] w (Did V S T p gb cap (m + 1) g (.bool (hasB (oS (g x 6)) k)) w) := by
  have HX := Lib.hid hx
  have HA := Lib.hid A
  have HK := Lib.hid hk
  have HB := Lib.hid (and_bt (oS_lt (g x 6)) hk)
  have fl := sm_field2 (g x 6)
  clear hx A hk
  go_enter Try.func40, Try.ntmps40
  go_wp2_with fail
  have HT : Hid (TB (w.alloc (.cells #[.int .i64 V, .int .i64 S, .int .i64 T, .iface 84 (pmV p), .int .i64 1, .int .i64 0] 32)) w.heap.size V S T p) := Lib.hid (TB.new _ _ _ _ _)
  have HA0 := Lib.hid (HA.out.alloc (.cells #[.int .i64 V, .int .i64 S, .int .i64 T, .iface 84 (pmV p), .int .i64 1, .int .i64 0] 32))
  have HO0 := Lib.hid ((Only.refl p gb w).alloc (.cells #[.int .i64 V, .int .i64 S, .int .i64 T, .iface 84 (pmV p), .int .i64 1, .int .i64 0] 32))
  have HBL : Hid (w.heap.size < (w.alloc (.cells #[.int .i64 V, .int .i64 S, .int .i64 T, .iface 84 (pmV p), .int .i64 1, .int .i64 0] 32)).heap.size) := Lib.hid (by simp)
  generalize hwb : w.heap.size = b at HT HBL ⊢
  generalize hW : w.alloc (.cells #[.int .i64 V, .int .i64 S, .int .i64 T, .iface 84 (pmV p), .int .i64 1, .int .i64 0] 32) = W at HT HA0 HO0 HBL ⊢
  clear hW
  have htb := tb_rule b V S T p
  obtain ⟨y0, y1, y2, y3, y4, y5⟩ := HT.out.cells
  have hlt := HT.out.lt
  refine (tsum HA0.out HX.out hm).mono ?_; rintro e w1 ⟨rfl, A1, O1⟩
  have HA1 := Lib.hid A1
  have HO1 := Lib.hid (HO0.out.trans O1)
  clear A1 O1
  go_wp2_with fail
  refine (tmarkBit HK.out _).mono ?_; rintro e w2 ⟨rfl, rfl⟩
  go_wp2_with fail
  go_ret
  exact ⟨by show Ending.returned (.bool (!(bits .and .u64 (oS (g x 6) : Int) (bt k : Int) == 0))) = _; rw [HB.out]; simp, HA1.out, HO1.out⟩

end

end Go.Proofs.Ytaooglagddphnaa

/- Contract of reckon. Printed by wip/tools/trph.py. -/
namespace Go.Proofs.Ytaooglagddphnaa
open Go.RowKit

set_option maxRecDepth 100000

/-- Is a node a vertex? -/
def vxN (V : Int) (x : Nat) : Bool := !arcN V x
/-- Three values, one behind the other. -/
def tri (a b c : Nat) : Nat → Nat
  | 0 => a
  | 1 => b
  | _ => c
theorem sum_pack {n v o a : Nat} (hn : n < 281474976710656) (hv : v < 281474976710656) (ho : o < 4) (ha : a < 4) :
    bits .or .u64 (bits .or .u64 (bits .or .u64 (n : Int) ((v : Int) * 65536)) ((o : Int) * 4294967296)) ((a : Int) * 17179869184) = (packW n v o a : Int) := by
  rw [show (v : Int) * 65536 = ((v * 65536 : Nat) : Int) by omega, show (o : Int) * 4294967296 = ((o * 4294967296 : Nat) : Int) by omega, show (a : Int) * 17179869184 = ((a * 17179869184 : Nat) : Int) by omega]
  have h1 : n ||| v * 65536 < 18446744073709551616 := Nat.or_lt_two_pow (n := 64) (by omega) (by omega)
  have h2 : n ||| v * 65536 ||| o * 4294967296 < 18446744073709551616 := Nat.or_lt_two_pow (n := 64) h1 (by omega)
  rw [u64_or_nat _ _ (by omega) (by omega), u64_or_nat _ _ h1 (by omega), u64_or_nat _ _ h2 (by omega)]
  rfl

/-- In the loop: k of two children are reckoned. -/
def RkRel (w0 : World) (b : Nat) (V S T : Int) (p gb cap m : Nat) (g : Mg9) (nf vf : Nat → Nat) (own : Nat) (af : Nat → Nat) (i : Value) (W : World) : Prop :=
  ∃ k, k ≤ 2 ∧ i = .int .i64 ((k : Nat) : Int) ∧ TB W b V S T p ∧ Blk W (b + 1) 149 #[.int .u64 (nf k : Int), .int .u64 (vf k : Int), .int .u64 (own : Int), .int .u64 (af k : Int)] ∧ TM W V S T p gb cap (m + k) g ∧ Only p gb w0 W

section
variable {V S T : Int} {g : Mg9} {w w' : World} {p gb cap m : Nat}
theorem rk_next {w0 w4 : World} {b own k : Nat} {nf vf af : Nat → Nat} {x0 x1 x2 x3 : Value} (hk : k + 1 ≤ 2) (HT : TB w4 b V S T p) (HS : Blk w4 (b + 1) 149 #[x0, x1, x2, x3]) (h2 : x2 = .int .u64 (own : Int)) (HA : TM w4 V S T p gb cap (m + k + 1) g) (HO : Only p gb w0 w4) (hb : w0.heap.size = b) (o : Obj) :
    RkRel w0 b V S T p gb cap m g nf vf own af (.int .i64 ((k + 1 : Nat) : Int)) ((((w4.setCell ⟨b + 1, 0, none⟩ (.int .u64 (nf (k + 1) : Int))).setCell ⟨b + 1, 1, none⟩ (.int .u64 (vf (k + 1) : Int))).setCell ⟨b + 1, 3, none⟩ (.int .u64 (af (k + 1) : Int))).alloc o) := by
  subst h2
  have hne : b ≠ b + 1 := by omega
  have B1 := HS.set_ 0 (.int .u64 (nf (k + 1) : Int))
  have B2 := B1.set_ 1 (.int .u64 (vf (k + 1) : Int))
  have B3 := B2.set_ 3 (.int .u64 (af (k + 1) : Int))
  exact ⟨k + 1, hk, rfl, Blk.alloc (Blk.far (Blk.far (Blk.far HT hne _) hne _) hne _) o, B3.alloc o, (((HA.far HS (by decide) (by decide) _).far B1 (by decide) (by decide) _).far B2 (by decide) (by decide) _).alloc o, (((HO.set_new (by omega) _).set_new (by omega) _).set_new (by omega) _).alloc o⟩
set_option maxHeartbeats 2000000 in
theorem treckon (A : TM w V S T p gb cap m g) {x own : Nat} (hx : x ≤ nN V S) (hx1 : 1 ≤ x) (ho : own < 4) (hm : m ≤ 99999990) :
    Calls Try.prog 99 #[vTr V S T p, .int .i64 (x : Int), .int .u64 (own : Int)] w (Did V S T p gb cap (m + 5) (reckG (vxN V) g x own) (.tuple #[]) w) := by
  have HX := Lib.hid hx
  have HX1 := Lib.hid hx1
  have HA := Lib.hid A
  have HR := Lib.hid A.hR
  have HLN := Lib.hid (A.b hx).2.1
  have HRN := Lib.hid (A.b hx).2.2
  obtain ⟨l, hl⟩ : ∃ l, g x 3 = l := ⟨_, rfl⟩
  obtain ⟨r, hr⟩ : ∃ r, g x 4 = r := ⟨_, rfl⟩
  rw [hl] at HLN
  rw [hr] at HRN
  obtain ⟨sl, hsl⟩ : ∃ sl, g l 6 = sl := ⟨_, rfl⟩
  obtain ⟨sr, hsr⟩ : ∃ sr, g r 6 = sr := ⟨_, rfl⟩
  have HL := Lib.hid hl
  have HRr := Lib.hid hr
  have HSL := Lib.hid hsl
  have HSR := Lib.hid hsr
  have HG : Hid (reckG (vxN V) g x own = up2 g x 6 (packW (1 + nS sl + nS sr) ((if vxN V x then 1 else 0) + vS sl + vS sr) own (own ||| aS sl ||| aS sr))) := Lib.hid (by unfold reckG; rw [hl, hr, hsl, hsr])
  rw [HG.out]
  obtain ⟨vx0, hvx⟩ : ∃ v : Nat, (if vxN V x then 1 else 0) = v := ⟨_, rfl⟩
  have HVX := Lib.hid hvx
  rw [hvx]
  clear hl hr hsl hsr hx hx1 hvx HG
  have hb5 : vx0 ≤ 1 := by have := HVX.out; split at this <;> omega
  obtain ⟨n1, n2, en1, en2⟩ : ∃ n1 n2, n1 = 1 + nS sl ∧ n2 = 1 + nS sl + nS sr := ⟨_, _, rfl, rfl⟩
  obtain ⟨v1, v2, ev1, ev2⟩ : ∃ v1 v2, v1 = vx0 + vS sl ∧ v2 = vx0 + vS sl + vS sr := ⟨_, _, rfl, rfl⟩
  obtain ⟨a1, a2, ea1, ea2⟩ : ∃ a1 a2, a1 = own ||| aS sl ∧ a2 = own ||| aS sl ||| aS sr := ⟨_, _, rfl, rfl⟩
  have hn2 : n2 ≤ 200000 := by have := nS_lt sl; have := nS_lt sr; omega
  have hv2 : v2 ≤ 200000 := by have := vS_lt sl; have := vS_lt sr; omega
  have ha1 : a1 < 4 := by rw [ea1]; exact or_lt4 ho (aS_lt sl)
  have ha2 : a2 < 4 := by rw [ea2]; exact or_lt4 (or_lt4 ho (aS_lt sl)) (aS_lt sr)
  have q1 : 1 + (nS sl : Int) = (n1 : Int) := by omega
  have q2 : (n1 : Int) + (nS sr : Int) = (n2 : Int) := by omega
  have q3 : (vx0 : Int) + (vS sl : Int) = (v1 : Int) := by omega
  have q4 : (v1 : Int) + (vS sr : Int) = (v2 : Int) := by omega
  have q5 : bits .or .u64 (own : Int) (aS sl : Int) = (a1 : Int) := by rw [ea1]; exact u64_or_nat _ _ (by omega) (by have := aS_lt sl; omega)
  have q6 : bits .or .u64 (a1 : Int) (aS sr : Int) = (a2 : Int) := by rw [ea2, ← ea1]; exact u64_or_nat _ _ (by omega) (by have := aS_lt sr; omega)
  have hn1 : (n1 : Int) ≤ 200000 := by omega
  have hn2' : (n2 : Int) ≤ 200000 := by omega
  have hv1 : (v1 : Int) ≤ 200000 := by omega
  have hv2' : (v2 : Int) ≤ 200000 := by omega
  have ha2' : (a2 : Int) ≤ 3 := by omega
  have hoI : (own : Int) ≤ 3 := by omega
  obtain ⟨SW, hSW⟩ : ∃ SW, packW n2 v2 own a2 = SW := ⟨_, rfl⟩
  have q7 : bits .or .u64 (bits .or .u64 (bits .or .u64 (n2 : Int) ((v2 : Int) * 65536)) ((own : Int) * 4294967296)) ((a2 : Int) * 17179869184) = (SW : Int) := by rw [← hSW]; exact sum_pack (by omega) (by omega) ho ha2
  have HSW : Hid (SW ≤ 18446744073709551615) := Lib.hid (by have := packW_lt (n := n2) (v := v2) (o := own) (a := a2) (by omega) (by omega) ho ha2; omega)
  rw [← en2, ← ev2, ← ea2, hSW]
  clear en1 en2 ev1 ev2 ea1 ea2 hSW hn2 hv2 ha1 ha2 A
  have main : ∀ q : Bool, arcN V x = q → Calls Try.prog 99 #[vTr V S T p, .int .i64 (x : Int), .int .u64 (own : Int)] w (Did V S T p gb cap (m + 5) (up2 g x 6 SW) (.tuple #[]) w) := by
    intro q hq
    have HQ := Lib.hid hq
    clear hq
    cases q with
    | true =>
      have HV0 : Hid (vx0 = 0) := Lib.hid (by have := HVX.out; unfold vxN at this; rw [HQ.out] at this; simpa using this.symm)
      go_enter Try.func99, Try.ntmps99
      go_wp2_with fail
      have HT : Hid (TB (w.alloc (.cells #[.int .i64 V, .int .i64 S, .int .i64 T, .iface 84 (pmV p), .int .i64 1, .int .i64 0] 32)) w.heap.size V S T p) := Lib.hid (TB.new _ _ _ _ _)
      have HA0 := Lib.hid (HA.out.alloc (.cells #[.int .i64 V, .int .i64 S, .int .i64 T, .iface 84 (pmV p), .int .i64 1, .int .i64 0] 32))
      have HO0 := Lib.hid ((Only.refl p gb w).alloc (.cells #[.int .i64 V, .int .i64 S, .int .i64 T, .iface 84 (pmV p), .int .i64 1, .int .i64 0] 32))
      have HS0 : Hid (Blk ((w.alloc (.cells #[.int .i64 V, .int .i64 S, .int .i64 T, .iface 84 (pmV p), .int .i64 1, .int .i64 0] 32)).alloc (.cells #[.int .u64 1, .int .u64 0, .int .u64 (own : Int), .int .u64 (own : Int)] 149)) (w.heap.size + 1) 149 #[.int .u64 1, .int .u64 0, .int .u64 (own : Int), .int .u64 (own : Int)]) := Lib.hid (new_next w _ _ _ _)
      replace HT := Lib.hid (HT.out.alloc (.cells #[.int .u64 1, .int .u64 0, .int .u64 (own : Int), .int .u64 (own : Int)] 149))
      replace HA0 := Lib.hid (HA0.out.alloc (.cells #[.int .u64 1, .int .u64 0, .int .u64 (own : Int), .int .u64 (own : Int)] 149))
      replace HO0 := Lib.hid (HO0.out.alloc (.cells #[.int .u64 1, .int .u64 0, .int .u64 (own : Int), .int .u64 (own : Int)] 149))
      generalize hwb : w.heap.size = b at HT HS0 ⊢
      generalize hW : (w.alloc (.cells #[.int .i64 V, .int .i64 S, .int .i64 T, .iface 84 (pmV p), .int .i64 1, .int .i64 0] 32)).alloc (.cells #[.int .u64 1, .int .u64 0, .int .u64 (own : Int), .int .u64 (own : Int)] 149) = W at HT HA0 HO0 HS0 ⊢
      clear hW
      have htb := tb_rule b V S T p
      obtain ⟨y0, y1, y2, y3, y4, y5⟩ := HT.out.cells
      have hlt := HT.out.lt
      refine (node_is HR.out HX1.out HX.out _).mono ?_; rintro e w1 ⟨⟨d1, d2, d3, rfl⟩, hb1⟩; rw [HQ.out]
      generalize lvN V x = lvl
      have HT1 := Lib.hid (HT.out.below hb1)
      have HS1 := Lib.hid (HS0.out.below hb1 HS0.out.lt)
      have HA1 := Lib.hid (HA0.out.below hb1)
      have HO1 := Lib.hid (HO0.out.trans (Only.of_below hb1))
      clear hb1 y0 y1 y2 y3 y4 y5 hlt HT HS0 HA0 HO0 htb
      obtain ⟨y0, y1, y2, y3, y4, y5⟩ := HT1.out.cells
      have hlt := HT1.out.lt
      have s0 := HS1.out.cell 0
      have s1 := HS1.out.cell 1
      have s2 := HS1.out.cell 2
      have s3 := HS1.out.cell 3
      have sf := HS1.out.frozen
      have slt := HS1.out.lt
      go_wp2_with fail
      have HT2 : Hid (TB (w1.alloc (.cells #[.bool true, .int .i64 lvl, .int .i64 d1, .int .i64 d2, .int .i64 d3] 161)) b V S T p) := Lib.hid (HT1.out.alloc _)
      have HS2 : Hid (Blk (w1.alloc (.cells #[.bool true, .int .i64 lvl, .int .i64 d1, .int .i64 d2, .int .i64 d3] 161)) (b + 1) 149 #[.int .u64 1, .int .u64 (vx0 : Int), .int .u64 (own : Int), .int .u64 (own : Int)]) := Lib.hid (by rw [HV0.out]; exact HS1.out.alloc _)
      have HA2 : Hid (TM (w1.alloc (.cells #[.bool true, .int .i64 lvl, .int .i64 d1, .int .i64 d2, .int .i64 d3] 161)) V S T p gb cap m g) := Lib.hid (HA1.out.alloc _)
      have HO2 : Hid (Only p gb w (w1.alloc (.cells #[.bool true, .int .i64 lvl, .int .i64 d1, .int .i64 d2, .int .i64 d3] 161))) := Lib.hid (HO1.out.alloc _)
      clear HT1 HS1 HA1 HO1 y0 y1 y2 y3 y4 y5 hlt s0 s1 s2 s3 sf slt
      generalize w1.alloc (.cells #[.bool true, .int .i64 lvl, .int .i64 d1, .int .i64 d2, .int .i64 d3] 161) = W2 at HT2 HS2 HA2 HO2 ⊢
      refine (tchildren HA2.out HX.out (by omega)).mono ?_; rintro e w3 ⟨rfl, A3, O3⟩; rw [HL.out, HRr.out]
      have HT3 := Lib.hid (HT2.out.only HA2.out O3)
      have HS3 := Lib.hid (HS2.out.treap HA2.out O3 (by decide) (by decide))
      have HRel : Hid (RkRel w b V S T p gb cap (m + 2) g (tri 1 n1 n2) (tri vx0 v1 v2) own (tri own a1 a2) (.int .i64 0) w3) := Lib.hid ⟨0, by omega, rfl, HT3.out, HS3.out, A3, HO2.out.trans O3⟩
      clear HT2 HS2 HA2 HO2 HT3 HS3 A3 O3
      go_wp2_with fail
      go_loopw [29] (fun i wr => RkRel w b V S T p gb cap (m + 2) g (tri 1 n1 n2) (tri vx0 v1 v2) own (tri own a1 a2) i wr) (fun i _ => 2 - (intOf i).toNat)
      case atStart => exact HRel.out
      case round =>
        clear HRel
        obtain ⟨k, hk, rfl, hT, hS, hA, hO⟩ := hrel
        have HT := Lib.hid hT
        have HS := Lib.hid hS
        have HA3 := Lib.hid hA
        have HO3 := Lib.hid hO
        obtain ⟨y0, y1, y2, y3, y4, y5⟩ := hT.cells
        have hlt := hT.lt
        have sf := hS.frozen
        have slt := hS.lt
        clear hT hS hA hO
        have hk3 : k = 0 ∨ k = 1 ∨ k = 2 := by omega
        rcases hk3 with rfl | rfl | rfl
        · have s0 : wr.cell? ⟨b + 1, 0, none⟩ = some (.int .u64 1) := HS.out.cell 0
          have s1 : wr.cell? ⟨b + 1, 1, none⟩ = some (.int .u64 (vx0 : Int)) := HS.out.cell 1
          have s3 : wr.cell? ⟨b + 1, 3, none⟩ = some (.int .u64 (own : Int)) := HS.out.cell 3
          have ix : ∀ W, (Instr.index 97 (.agg #[.int .i64 (l : Int), .int .i64 (r : Int)]) (.int .i64 0)).run Try.prog W = .ok (.int .i64 (l : Int)) W := fun W => rfl
          go_wp2_with fail
          refine (tsum HA3.out HLN.out (by omega)).mono ?_; rintro e w4 ⟨rfl, A4, O4⟩; rw [HSL.out]
          have HT4 := Lib.hid (HT.out.only HA3.out O4)
          have HS4 := Lib.hid (HS.out.treap HA3.out O4 (by decide) (by decide))
          have HA4 := Lib.hid A4
          have HO4 := Lib.hid (HO3.out.trans O4)
          clear s0 s1 s3 y0 y1 y2 y3 y4 y5 hlt HT HS HA3 HO3 ix sf slt
          obtain ⟨y0, y1, y2, y3, y4, y5⟩ := HT4.out.cells
          have hlt := HT4.out.lt
          have s0 : w4.cell? ⟨b + 1, 0, none⟩ = some (.int .u64 1) := HS4.out.cell 0
          have s1 : w4.cell? ⟨b + 1, 1, none⟩ = some (.int .u64 (vx0 : Int)) := HS4.out.cell 1
          have s3 : w4.cell? ⟨b + 1, 3, none⟩ = some (.int .u64 (own : Int)) := HS4.out.cell 3
          have sf := HS4.out.frozen
          have slt := HS4.out.lt
          go_wp2_with fail
          go_roundw
          case rel => exact rk_next (nf := tri 1 n1 n2) (vf := tri vx0 v1 v2) (af := tri own a1 a2) (k := 0) (by omega) HT4.out HS4.out rfl HA4.out HO4.out hwb _
          case measure => simp [intOf]
        · have s0 : wr.cell? ⟨b + 1, 0, none⟩ = some (.int .u64 (n1 : Int)) := HS.out.cell 0
          have s1 : wr.cell? ⟨b + 1, 1, none⟩ = some (.int .u64 (v1 : Int)) := HS.out.cell 1
          have s3 : wr.cell? ⟨b + 1, 3, none⟩ = some (.int .u64 (a1 : Int)) := HS.out.cell 3
          have ix : ∀ W, (Instr.index 97 (.agg #[.int .i64 (l : Int), .int .i64 (r : Int)]) (.int .i64 1)).run Try.prog W = .ok (.int .i64 (r : Int)) W := fun W => rfl
          go_wp2_with fail
          refine (tsum HA3.out HRN.out (by omega)).mono ?_; rintro e w4 ⟨rfl, A4, O4⟩; rw [HSR.out]
          have HT4 := Lib.hid (HT.out.only HA3.out O4)
          have HS4 := Lib.hid (HS.out.treap HA3.out O4 (by decide) (by decide))
          have HA4 := Lib.hid A4
          have HO4 := Lib.hid (HO3.out.trans O4)
          clear s0 s1 s3 y0 y1 y2 y3 y4 y5 hlt HT HS HA3 HO3 ix sf slt
          obtain ⟨y0, y1, y2, y3, y4, y5⟩ := HT4.out.cells
          have hlt := HT4.out.lt
          have s0 : w4.cell? ⟨b + 1, 0, none⟩ = some (.int .u64 (n1 : Int)) := HS4.out.cell 0
          have s1 : w4.cell? ⟨b + 1, 1, none⟩ = some (.int .u64 (v1 : Int)) := HS4.out.cell 1
          have s3 : w4.cell? ⟨b + 1, 3, none⟩ = some (.int .u64 (a1 : Int)) := HS4.out.cell 3
          have sf := HS4.out.frozen
          have slt := HS4.out.lt
          go_wp2_with fail
          go_roundw
          case rel => exact rk_next (nf := tri 1 n1 n2) (vf := tri vx0 v1 v2) (af := tri own a1 a2) (k := 1) (by omega) HT4.out HS4.out rfl HA4.out HO4.out hwb _
          case measure => simp [intOf]
        · have s0 : wr.cell? ⟨b + 1, 0, none⟩ = some (.int .u64 (n2 : Int)) := HS.out.cell 0
          have s1 : wr.cell? ⟨b + 1, 1, none⟩ = some (.int .u64 (v2 : Int)) := HS.out.cell 1
          have s2 : wr.cell? ⟨b + 1, 2, none⟩ = some (.int .u64 (own : Int)) := HS.out.cell 2
          have s3 : wr.cell? ⟨b + 1, 3, none⟩ = some (.int .u64 (a2 : Int)) := HS.out.cell 3
          go_wp2_with fail
          refine (tstore (k := 6) HA3.out kI6 HX.out HX1.out (by omega) (fun e => absurd e (by omega)) (fun e => absurd e (by omega)) HSW.out (by omega)).mono ?_; rintro e w4 ⟨rfl, A4, O4⟩
          have HA4 := Lib.hid A4
          have HO4 := Lib.hid (HO3.out.trans O4)
          clear A4 O4
          go_wp2_with fail
          go_end0
          exact ⟨rfl, HA4.out.more (by omega), HO4.out⟩
    | false =>
      have HV0 : Hid (vx0 = 1) := Lib.hid (by have := HVX.out; unfold vxN at this; rw [HQ.out] at this; simpa using this.symm)
      go_enter Try.func99, Try.ntmps99
      go_wp2_with fail
      have HT : Hid (TB (w.alloc (.cells #[.int .i64 V, .int .i64 S, .int .i64 T, .iface 84 (pmV p), .int .i64 1, .int .i64 0] 32)) w.heap.size V S T p) := Lib.hid (TB.new _ _ _ _ _)
      have HA0 := Lib.hid (HA.out.alloc (.cells #[.int .i64 V, .int .i64 S, .int .i64 T, .iface 84 (pmV p), .int .i64 1, .int .i64 0] 32))
      have HO0 := Lib.hid ((Only.refl p gb w).alloc (.cells #[.int .i64 V, .int .i64 S, .int .i64 T, .iface 84 (pmV p), .int .i64 1, .int .i64 0] 32))
      have HS0 : Hid (Blk ((w.alloc (.cells #[.int .i64 V, .int .i64 S, .int .i64 T, .iface 84 (pmV p), .int .i64 1, .int .i64 0] 32)).alloc (.cells #[.int .u64 1, .int .u64 0, .int .u64 (own : Int), .int .u64 (own : Int)] 149)) (w.heap.size + 1) 149 #[.int .u64 1, .int .u64 0, .int .u64 (own : Int), .int .u64 (own : Int)]) := Lib.hid (new_next w _ _ _ _)
      replace HT := Lib.hid (HT.out.alloc (.cells #[.int .u64 1, .int .u64 0, .int .u64 (own : Int), .int .u64 (own : Int)] 149))
      replace HA0 := Lib.hid (HA0.out.alloc (.cells #[.int .u64 1, .int .u64 0, .int .u64 (own : Int), .int .u64 (own : Int)] 149))
      replace HO0 := Lib.hid (HO0.out.alloc (.cells #[.int .u64 1, .int .u64 0, .int .u64 (own : Int), .int .u64 (own : Int)] 149))
      generalize hwb : w.heap.size = b at HT HS0 ⊢
      generalize hW : (w.alloc (.cells #[.int .i64 V, .int .i64 S, .int .i64 T, .iface 84 (pmV p), .int .i64 1, .int .i64 0] 32)).alloc (.cells #[.int .u64 1, .int .u64 0, .int .u64 (own : Int), .int .u64 (own : Int)] 149) = W at HT HA0 HO0 HS0 ⊢
      clear hW
      have htb := tb_rule b V S T p
      obtain ⟨y0, y1, y2, y3, y4, y5⟩ := HT.out.cells
      have hlt := HT.out.lt
      refine (node_is HR.out HX1.out HX.out _).mono ?_; rintro e w1 ⟨⟨d1, d2, d3, rfl⟩, hb1⟩; rw [HQ.out]
      generalize lvN V x = lvl
      have HT1 := Lib.hid (HT.out.below hb1)
      have HS1 := Lib.hid (HS0.out.below hb1 HS0.out.lt)
      have HA1 := Lib.hid (HA0.out.below hb1)
      have HO1 := Lib.hid (HO0.out.trans (Only.of_below hb1))
      clear hb1 y0 y1 y2 y3 y4 y5 hlt HT HS0 HA0 HO0 htb
      obtain ⟨y0, y1, y2, y3, y4, y5⟩ := HT1.out.cells
      have hlt := HT1.out.lt
      have s0 := HS1.out.cell 0
      have s1 := HS1.out.cell 1
      have s2 := HS1.out.cell 2
      have s3 := HS1.out.cell 3
      have sf := HS1.out.frozen
      have slt := HS1.out.lt
      go_wp2_with fail
      have HT2 : Hid (TB ((w1.setCell ⟨b + 1, 1, none⟩ (.int .u64 1)).alloc (.cells #[.bool false, .int .i64 lvl, .int .i64 d1, .int .i64 d2, .int .i64 d3] 161)) b V S T p) := Lib.hid (TB.alloc (Blk.far HT1.out (by simp) _) _)
      have HS2 : Hid (Blk ((w1.setCell ⟨b + 1, 1, none⟩ (.int .u64 1)).alloc (.cells #[.bool false, .int .i64 lvl, .int .i64 d1, .int .i64 d2, .int .i64 d3] 161)) (b + 1) 149 #[.int .u64 1, .int .u64 (vx0 : Int), .int .u64 (own : Int), .int .u64 (own : Int)]) := Lib.hid (by rw [HV0.out]; exact (HS1.out.set_ 1 _).alloc _)
      have HA2 : Hid (TM ((w1.setCell ⟨b + 1, 1, none⟩ (.int .u64 1)).alloc (.cells #[.bool false, .int .i64 lvl, .int .i64 d1, .int .i64 d2, .int .i64 d3] 161)) V S T p gb cap m g) := Lib.hid ((HA1.out.far HS1.out (by decide) (by decide) _).alloc _)
      have HO2 : Hid (Only p gb w ((w1.setCell ⟨b + 1, 1, none⟩ (.int .u64 1)).alloc (.cells #[.bool false, .int .i64 lvl, .int .i64 d1, .int .i64 d2, .int .i64 d3] 161))) := Lib.hid ((HO1.out.set_new (by omega) _).alloc _)
      clear HT1 HS1 HA1 HO1 y0 y1 y2 y3 y4 y5 hlt s0 s1 s2 s3 sf slt
      generalize (w1.setCell ⟨b + 1, 1, none⟩ (.int .u64 1)).alloc (.cells #[.bool false, .int .i64 lvl, .int .i64 d1, .int .i64 d2, .int .i64 d3] 161) = W2 at HT2 HS2 HA2 HO2 ⊢
      refine (tchildren HA2.out HX.out (by omega)).mono ?_; rintro e w3 ⟨rfl, A3, O3⟩; rw [HL.out, HRr.out]
      have HT3 := Lib.hid (HT2.out.only HA2.out O3)
      have HS3 := Lib.hid (HS2.out.treap HA2.out O3 (by decide) (by decide))
      have HRel : Hid (RkRel w b V S T p gb cap (m + 2) g (tri 1 n1 n2) (tri vx0 v1 v2) own (tri own a1 a2) (.int .i64 0) w3) := Lib.hid ⟨0, by omega, rfl, HT3.out, HS3.out, A3, HO2.out.trans O3⟩
      clear HT2 HS2 HA2 HO2 HT3 HS3 A3 O3
      go_wp2_with fail
      go_loopw [29] (fun i wr => RkRel w b V S T p gb cap (m + 2) g (tri 1 n1 n2) (tri vx0 v1 v2) own (tri own a1 a2) i wr) (fun i _ => 2 - (intOf i).toNat)
      case atStart => exact HRel.out
      case round =>
        clear HRel
        obtain ⟨k, hk, rfl, hT, hS, hA, hO⟩ := hrel
        have HT := Lib.hid hT
        have HS := Lib.hid hS
        have HA3 := Lib.hid hA
        have HO3 := Lib.hid hO
        obtain ⟨y0, y1, y2, y3, y4, y5⟩ := hT.cells
        have hlt := hT.lt
        have sf := hS.frozen
        have slt := hS.lt
        clear hT hS hA hO
        have hk3 : k = 0 ∨ k = 1 ∨ k = 2 := by omega
        rcases hk3 with rfl | rfl | rfl
        · have s0 : wr.cell? ⟨b + 1, 0, none⟩ = some (.int .u64 1) := HS.out.cell 0
          have s1 : wr.cell? ⟨b + 1, 1, none⟩ = some (.int .u64 (vx0 : Int)) := HS.out.cell 1
          have s3 : wr.cell? ⟨b + 1, 3, none⟩ = some (.int .u64 (own : Int)) := HS.out.cell 3
          have ix : ∀ W, (Instr.index 97 (.agg #[.int .i64 (l : Int), .int .i64 (r : Int)]) (.int .i64 0)).run Try.prog W = .ok (.int .i64 (l : Int)) W := fun W => rfl
          go_wp2_with fail
          refine (tsum HA3.out HLN.out (by omega)).mono ?_; rintro e w4 ⟨rfl, A4, O4⟩; rw [HSL.out]
          have HT4 := Lib.hid (HT.out.only HA3.out O4)
          have HS4 := Lib.hid (HS.out.treap HA3.out O4 (by decide) (by decide))
          have HA4 := Lib.hid A4
          have HO4 := Lib.hid (HO3.out.trans O4)
          clear s0 s1 s3 y0 y1 y2 y3 y4 y5 hlt HT HS HA3 HO3 ix sf slt
          obtain ⟨y0, y1, y2, y3, y4, y5⟩ := HT4.out.cells
          have hlt := HT4.out.lt
          have s0 : w4.cell? ⟨b + 1, 0, none⟩ = some (.int .u64 1) := HS4.out.cell 0
          have s1 : w4.cell? ⟨b + 1, 1, none⟩ = some (.int .u64 (vx0 : Int)) := HS4.out.cell 1
          have s3 : w4.cell? ⟨b + 1, 3, none⟩ = some (.int .u64 (own : Int)) := HS4.out.cell 3
          have sf := HS4.out.frozen
          have slt := HS4.out.lt
          go_wp2_with fail
          go_roundw
          case rel => exact rk_next (nf := tri 1 n1 n2) (vf := tri vx0 v1 v2) (af := tri own a1 a2) (k := 0) (by omega) HT4.out HS4.out rfl HA4.out HO4.out hwb _
          case measure => simp [intOf]
        · have s0 : wr.cell? ⟨b + 1, 0, none⟩ = some (.int .u64 (n1 : Int)) := HS.out.cell 0
          have s1 : wr.cell? ⟨b + 1, 1, none⟩ = some (.int .u64 (v1 : Int)) := HS.out.cell 1
          have s3 : wr.cell? ⟨b + 1, 3, none⟩ = some (.int .u64 (a1 : Int)) := HS.out.cell 3
          have ix : ∀ W, (Instr.index 97 (.agg #[.int .i64 (l : Int), .int .i64 (r : Int)]) (.int .i64 1)).run Try.prog W = .ok (.int .i64 (r : Int)) W := fun W => rfl
          go_wp2_with fail
          refine (tsum HA3.out HRN.out (by omega)).mono ?_; rintro e w4 ⟨rfl, A4, O4⟩; rw [HSR.out]
          have HT4 := Lib.hid (HT.out.only HA3.out O4)
          have HS4 := Lib.hid (HS.out.treap HA3.out O4 (by decide) (by decide))
          have HA4 := Lib.hid A4
          have HO4 := Lib.hid (HO3.out.trans O4)
          clear s0 s1 s3 y0 y1 y2 y3 y4 y5 hlt HT HS HA3 HO3 ix sf slt
          obtain ⟨y0, y1, y2, y3, y4, y5⟩ := HT4.out.cells
          have hlt := HT4.out.lt
          have s0 : w4.cell? ⟨b + 1, 0, none⟩ = some (.int .u64 (n1 : Int)) := HS4.out.cell 0
          have s1 : w4.cell? ⟨b + 1, 1, none⟩ = some (.int .u64 (v1 : Int)) := HS4.out.cell 1
          have s3 : w4.cell? ⟨b + 1, 3, none⟩ = some (.int .u64 (a1 : Int)) := HS4.out.cell 3
          have sf := HS4.out.frozen
          have slt := HS4.out.lt
          go_wp2_with fail
          go_roundw
          case rel => exact rk_next (nf := tri 1 n1 n2) (vf := tri vx0 v1 v2) (af := tri own a1 a2) (k := 1) (by omega) HT4.out HS4.out rfl HA4.out HO4.out hwb _
          case measure => simp [intOf]
        · have s0 : wr.cell? ⟨b + 1, 0, none⟩ = some (.int .u64 (n2 : Int)) := HS.out.cell 0
          have s1 : wr.cell? ⟨b + 1, 1, none⟩ = some (.int .u64 (v2 : Int)) := HS.out.cell 1
          have s2 : wr.cell? ⟨b + 1, 2, none⟩ = some (.int .u64 (own : Int)) := HS.out.cell 2
          have s3 : wr.cell? ⟨b + 1, 3, none⟩ = some (.int .u64 (a2 : Int)) := HS.out.cell 3
          go_wp2_with fail
          refine (tstore (k := 6) HA3.out kI6 HX.out HX1.out (by omega) (fun e => absurd e (by omega)) (fun e => absurd e (by omega)) HSW.out (by omega)).mono ?_; rintro e w4 ⟨rfl, A4, O4⟩
          have HA4 := Lib.hid A4
          have HO4 := Lib.hid (HO3.out.trans O4)
          clear A4 O4
          go_wp2_with fail
          go_end0
          exact ⟨rfl, HA4.out.more (by omega), HO4.out⟩
  exact main _ rfl
end

end Go.Proofs.Ytaooglagddphnaa

/- Contracts of hang and Alone. Printed by wip/tools/trpi.py. -/
namespace Go.Proofs.Ytaooglagddphnaa
open Go.RowKit

set_option maxRecDepth 100000

/-- A turn's value; trees' variable beside a turn's. -/
abbrev vTn (x k : Nat) : Value := .agg #[.int .i64 (x : Int), .int .i64 (k : Int)]
section
variable {V S T : Int} {g : Mg9} {w w' : World} {p gb cap m : Nat}
/-- A node on whose side a tree may be hung: the sums are small enough. -/
structure HangOk (V S : Int) (x : Nat) (c : Nat) : Prop where
  x1 : 1 ≤ x
  xN : x ≤ nN V S
  cN : c ≤ nN V S
theorem hang_G {x c : Nat} {rt : Bool} : setP (up2 g x (if rt then 4 else 3) c) c x x 3 = (if rt then g x 3 else c) ∧ setP (up2 g x (if rt then 4 else 3) c) c x x 4 = (if rt then c else g x 4) ∧ (∀ y, setP (up2 g x (if rt then 4 else 3) c) c x y 6 = g y 6) := by
  cases rt
  · exact ⟨(setP_field _ _ _ _ (by decide)).trans (up2_same _ _ _ _), (setP_field _ _ _ _ (by decide)).trans (up2_field _ _ _ _ (by decide)), fun y => (setP_field _ _ _ _ (by decide)).trans (up2_field _ _ _ _ (by decide))⟩
  · exact ⟨(setP_field _ _ _ _ (by decide)).trans (up2_field _ _ _ _ (by decide)), (setP_field _ _ _ _ (by decide)).trans (up2_same _ _ _ _), fun y => (setP_field _ _ _ _ (by decide)).trans (up2_field _ _ _ _ (by decide))⟩

/-- A node alone. -/
def aloneG (vx : Nat → Bool) (g : Mg9) (x : Nat) : Mg9 := reckG vx (setP (up2 (up2 g x 3 0) x 4 0) x 0) x 0
set_option maxHeartbeats 1000000 in
theorem talone (A : TM w V S T p gb cap m g) {x : Nat} (hx1 : 1 ≤ x) (hx : x ≤ nN V S) (hm : m ≤ 99999980) :
    Calls Try.prog 44 #[vTr V S T p, .int .i64 (x : Int)] w (Did V S T p gb cap (m + 9) (aloneG (vxN V) g x) (.tuple #[]) w) := by
  have HX := Lib.hid hx
  have HX1 := Lib.hid hx1
  have HA := Lib.hid A
  obtain ⟨G, hG⟩ : ∃ G, setP (up2 (up2 g x 3 0) x 4 0) x 0 = G := ⟨_, rfl⟩
  have HG := Lib.hid hG
  have HE : Hid (aloneG (vxN V) g x = reckG (vxN V) G x 0) := Lib.hid (by unfold aloneG; rw [hG])
  rw [HE.out]
  clear A hx hx1 hG
  go_enter Try.func44, Try.ntmps44
  go_wp2_with fail
  have HT : Hid (TB (w.alloc (.cells #[.int .i64 V, .int .i64 S, .int .i64 T, .iface 84 (pmV p), .int .i64 1, .int .i64 0] 32)) w.heap.size V S T p) := Lib.hid (TB.new _ _ _ _ _)
  have HA0 := Lib.hid (HA.out.alloc (.cells #[.int .i64 V, .int .i64 S, .int .i64 T, .iface 84 (pmV p), .int .i64 1, .int .i64 0] 32))
  have HO0 := Lib.hid ((Only.refl p gb w).alloc (.cells #[.int .i64 V, .int .i64 S, .int .i64 T, .iface 84 (pmV p), .int .i64 1, .int .i64 0] 32))
  have HBL : Hid (w.heap.size < (w.alloc (.cells #[.int .i64 V, .int .i64 S, .int .i64 T, .iface 84 (pmV p), .int .i64 1, .int .i64 0] 32)).heap.size) := Lib.hid (by simp)
  generalize hwb : w.heap.size = b at HT HBL ⊢
  generalize hW : w.alloc (.cells #[.int .i64 V, .int .i64 S, .int .i64 T, .iface 84 (pmV p), .int .i64 1, .int .i64 0] 32) = W at HT HA0 HO0 HBL ⊢
  clear hW
  have htb := tb_rule b V S T p
  obtain ⟨y0, y1, y2, y3, y4, y5⟩ := HT.out.cells
  have hlt := HT.out.lt
  refine (tstore (k := 3) (v := 0) HA0.out kI3 HX.out HX1.out (by omega) (fun e => absurd e (by omega)) (fun _ => by omega) (by omega) (by omega)).mono ?_; rintro e w1 ⟨rfl, A1, O1⟩
  have HT1 := Lib.hid (HT.out.only HA0.out O1)
  have HA1 := Lib.hid A1
  have HO1 := Lib.hid (HO0.out.trans O1)
  clear A1 O1 HT HA0 HO0 y0 y1 y2 y3 y4 y5 hlt
  obtain ⟨y0, y1, y2, y3, y4, y5⟩ := HT1.out.cells
  have hlt := HT1.out.lt
  go_wp2_with fail
  refine (tstore (k := 4) (v := 0) HA1.out kI4 HX.out HX1.out (by omega) (fun e => absurd e (by omega)) (fun _ => by omega) (by omega) (by omega)).mono ?_; rintro e w2 ⟨rfl, A2, O2⟩
  have HT2 := Lib.hid (HT1.out.only HA1.out O2)
  have HA2 := Lib.hid A2
  have HO2 := Lib.hid (HO1.out.trans O2)
  clear A2 O2 HT1 HA1 HO1 y0 y1 y2 y3 y4 y5 hlt
  obtain ⟨y0, y1, y2, y3, y4, y5⟩ := HT2.out.cells
  have hlt := HT2.out.lt
  go_wp2_with fail
  refine (tsetParent (v := 0) HA2.out HX.out (by omega) (by omega)).mono ?_; rintro e w3 ⟨rfl, A3, O3⟩; rw [HG.out] at A3
  have HT3 := Lib.hid (HT2.out.only HA2.out O3)
  have HA3 := Lib.hid A3
  have HO3 := Lib.hid (HO2.out.trans O3)
  clear A3 O3 HT2 HA2 HO2 y0 y1 y2 y3 y4 y5 hlt
  obtain ⟨y0, y1, y2, y3, y4, y5⟩ := HT3.out.cells
  have hlt := HT3.out.lt
  go_wp2_with fail
  refine (treckon (own := 0) HA3.out HX.out HX1.out (by omega) (by omega)).mono ?_; rintro e w4 ⟨rfl, A4, O4⟩
  have HA4 := Lib.hid A4
  have HO4 := Lib.hid (HO3.out.trans O4)
  clear A4 O4
  go_wp2_with fail
  go_end0
  exact ⟨rfl, HA4.out.more (by omega), HO4.out⟩
end

end Go.Proofs.Ytaooglagddphnaa
