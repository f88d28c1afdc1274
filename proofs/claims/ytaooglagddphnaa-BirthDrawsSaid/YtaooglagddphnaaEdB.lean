/- A memory of edges; contracts of hasSlot, hasLevel, Find, set, Put, Remove. -/
import Derived.Test.YtaooglagddphnaaEdA
namespace Go.Proofs.Ytaooglagddphnaa
open Go.RowKit

set_option maxRecDepth 100000

/-- A memory of a lay's cells. -/
def EM (w : World) (V S T : Int) (p gb cap m : Nat) (f : Nat → Int) : Prop := Rt V S T ∧ ∃ c, Ar w p gb (cellsE V S T) cap c f ∧ CB c m
/-- Edges' value. -/
abbrev vE (V S T : Int) (p : Nat) : Value := .agg #[.int .i64 V, .int .i64 S, .int .i64 T, .iface 84 (pmV p)]
/-- .. in a block of its own. -/
def EdB (w : World) (b : Nat) (V S T : Int) (p : Nat) : Prop := Blk w b 36 #[.int .i64 V, .int .i64 S, .int .i64 T, .iface 84 (pmV p)]
section
variable {w w' w0 : World} {V S T : Int} {p gb cap m m' b k : Nat} {f : Nat → Int}
theorem EM.hR (h : EM w V S T p gb cap m f) : Rt V S T := h.1
theorem EM.below (h : EM w V S T p gb cap m f) (hb : Below w.heap.size w w') : EM w' V S T p gb cap m f := by
  obtain ⟨h1, c, A, C⟩ := h
  exact ⟨h1, c, A.below hb (Nat.le_refl _), C⟩
theorem EM.drew (h : EM w V S T p gb cap m f) : EM w.drew V S T p gb cap m f := h.below (Below.refl _ _).drew
theorem EM.more (h : EM w V S T p gb cap m f) (hm : m ≤ m') : EM w V S T p gb cap m' f := by
  obtain ⟨h1, c, A, C⟩ := h
  exact ⟨h1, c, A, C.more hm⟩
theorem EM.p_lt (h : EM w V S T p gb cap m f) : p < w.heap.size := by obtain ⟨_, _, A, _⟩ := h; exact A.p_lt
theorem EM.g_lt (h : EM w V S T p gb cap m f) : gb < w.heap.size := by obtain ⟨_, _, A, _⟩ := h; exact A.g_lt
theorem Blk.em {q : Nat} {ty : TypeId} {cs : Array Value} (h : Blk w q ty cs) (A : EM w V S T p gb cap m f) (ho : Only p gb w w') (h1 : ty ≠ 118) (h2 : ty ≠ 51) : Blk w' q ty cs := by
  obtain ⟨_, _, A, _⟩ := A
  obtain ⟨zs, hz, _⟩ := A.cells
  exact h.only ho (Blk.ne_ h A.own h1) (Blk.ne_ h hz h2)
theorem EM.far (h : EM w V S T p gb cap m f) {q j : Nat} {ty : TypeId} {cs : Array Value} (hq : Blk w q ty cs) (h1 : ty ≠ 118) (h2 : ty ≠ 51) (u : Value) : EM (w.setCell ⟨q, j, none⟩ u) V S T p gb cap m f := by
  obtain ⟨hR, c, A, C⟩ := h
  obtain ⟨zs, hz, _⟩ := A.cells
  exact ⟨hR, c, A.q_far (Blk.ne_ hq A.own h1) (Blk.ne_ hq hz h2) u, C⟩
theorem em_load (h : EM w V S T p gb cap m f) (hk : k < cellsE V S T) (hb : m ≤ 100000000) {kI : Int} (hI : kI = (k : Int)) :
    Calls Try.prog 165 #[pmV p, .int .i64 kI] w fun e w' => e = .returned (.int .u64 (f k)) ∧ EM w' V S T p gb cap (m + 1) f ∧ Only p gb w w' := by
  subst hI
  obtain ⟨h1, c, A, C⟩ := h
  refine (pm_load A hk C hb).mono ?_
  rintro e w' ⟨rfl, A2, O2⟩
  exact ⟨rfl, ⟨h1, _, A2, C.upd 0⟩, O2⟩
theorem em_store (h : EM w V S T p gb cap m f) (hk : k < cellsE V S T) {x : Int} (hx0 : 0 ≤ x) (hx1 : x ≤ 18446744073709551615) (hb : m ≤ 100000000) {kI : Int} (hI : kI = (k : Int)) :
    Calls Try.prog 166 #[pmV p, .int .i64 kI, .int .u64 x] w fun e w' => e = .returned (.tuple #[]) ∧ EM w' V S T p gb cap (m + 1) (upd f k x) ∧ Only p gb w w' := by
  subst hI
  obtain ⟨h1, c, A, C⟩ := h
  refine (pm_store A hk hx0 hx1 C hb).mono ?_
  rintro e w' ⟨rfl, A2, O2⟩
  exact ⟨rfl, ⟨h1, _, A2, C.upd 1⟩, O2⟩
theorem EdB.new (w : World) (V S T : Int) (p : Nat) : EdB (w.alloc (.cells #[.int .i64 V, .int .i64 S, .int .i64 T, .iface 84 (pmV p)] 36)) w.heap.size V S T p := Blk.new _ _ _
theorem EdB.lt (h : EdB w b V S T p) : b < w.heap.size := Blk.lt h
theorem EdB.below (h : EdB w b V S T p) (hb : Below w.heap.size w w') : EdB w' b V S T p := Blk.below h hb (Blk.lt h)
theorem EdB.drew (h : EdB w b V S T p) : EdB w.drew b V S T p := h
theorem EdB.only (h : EdB w b V S T p) (A : EM w V S T p gb cap m f) (ho : Only p gb w w') : EdB w' b V S T p := Blk.em h A ho (by decide) (by decide)
theorem EdB.cells (h : EdB w b V S T p) : w.cell? ⟨b, 0, none⟩ = some (.int .i64 V) ∧ w.cell? ⟨b, 1, none⟩ = some (.int .i64 S) ∧ w.cell? ⟨b, 2, none⟩ = some (.int .i64 T) ∧ w.cell? ⟨b, 3, none⟩ = some (.iface 84 (pmV p)) :=
  ⟨Blk.cell h 0, Blk.cell h 1, Blk.cell h 2, Blk.cell h 3⟩
theorem EdB.rule (b : Nat) (V S T : Int) (p : Nat) : ∀ W : World, EdB W b V S T p → W.cell? ⟨b, 0, none⟩ = some (.int .i64 V) ∧ W.cell? ⟨b, 1, none⟩ = some (.int .i64 S) ∧ W.cell? ⟨b, 2, none⟩ = some (.int .i64 T) ∧ W.cell? ⟨b, 3, none⟩ = some (.iface 84 (pmV p)) := fun _ h => h.cells
/-- In a call: the box of the edges, their memory, and what was there. -/
structure EX (w0 W : World) (b : Nat) (V S T : Int) (p gb cap m : Nat) (f : Nat → Int) : Prop where
  e : EdB W b V S T p
  m : EM W V S T p gb cap m f
  o : Only p gb w0 W
theorem EX.below (h : EX w0 w b V S T p gb cap m f) (hb : Below w.heap.size w w') : EX w0 w' b V S T p gb cap m f := ⟨h.e.below hb, h.m.below hb, h.o.trans (Only.of_below hb)⟩
theorem EX.drew (h : EX w0 w b V S T p gb cap m f) : EX w0 w.drew b V S T p gb cap m f := h.below (Below.refl _ _).drew
theorem EX.next {f' : Nat → Int} (h : EX w0 w b V S T p gb cap m f) (hm : EM w' V S T p gb cap m' f') (ho : Only p gb w w') : EX w0 w' b V S T p gb cap m' f' := ⟨h.e.only h.m ho, hm, h.o.trans ho⟩
theorem EX.new (h : EM w V S T p gb cap m f) : EX w (w.alloc (.cells #[.int .i64 V, .int .i64 S, .int .i64 T, .iface 84 (pmV p)] 36)) w.heap.size V S T p gb cap m f :=
  ⟨EdB.new _ _ _ _ _, h.below ((Below.refl _ _).alloc (Nat.le_refl _) _), (Only.refl _ _ _).alloc _⟩
end

section
variable {V S T : Int} {p : Nat}
theorem hasSlot_yes (hR : Rt V S T) {x : Int} (h0 : 0 ≤ x) (h1 : x < S) (w : World) :
    Calls Try.prog 84 #[vE V S T p, .int .i64 x] w fun e w' => e = .returned (.bool true) ∧ Below w.heap.size w w' := by
  have hs : slotF S T x 1 = T + 1 + x * 7 + 1 := if_pos (by omega)
  have HS := Lib.hid hs
  have hg : (0 : Int) ≤ T + 1 + x * 7 + 1 := by have := hR.t1; omega
  clear hs
  go_enter Try.func84, Try.ntmps84
  go_wp2_with fail
  refine (ends_yes V S T x hR _).mono ?_; rintro e w1 ⟨rfl, hb1⟩; rw [HS.out]
  go_wp2_with fail
  go_ret
  exact ⟨rfl, keepL ((Below.refl _ _).alloc (Nat.le_refl _) _) hb1⟩
theorem hasSlot_no (hR : Rt V S T) {x : Int} (h0 : x < 0) (w : World) :
    Calls Try.prog 84 #[vE V S T p, .int .i64 x] w fun e w' => e = .returned (.bool false) ∧ Below w.heap.size w w' := by
  have hs : slotF S T x 1 = -1 := if_neg (by omega)
  have HS := Lib.hid hs
  clear hs
  go_enter Try.func84, Try.ntmps84
  go_wp2_with fail
  refine (ends_yes V S T x hR _).mono ?_; rintro e w1 ⟨rfl, hb1⟩; rw [HS.out]
  go_wp2_with fail
  go_ret
  exact ⟨rfl, keepL ((Below.refl _ _).alloc (Nat.le_refl _) _) hb1⟩
theorem hasLevel_yes (hR : Rt V S T) {x : Int} (h0 : 0 ≤ x) (h1 : x < lv V) (w : World) :
    Calls Try.prog 85 #[vE V S T p, .int .i64 x] w fun e w' => e = .returned (.bool true) ∧ Below w.heap.size w w' := by
  go_enter Try.func85, Try.ntmps85
  go_wp2_with fail
  refine (levels_yes V S T hR _).mono ?_; rintro e w1 ⟨rfl, hb1⟩
  go_wp2_with fail
  go_ret
  exact ⟨rfl, keepL ((Below.refl _ _).alloc (Nat.le_refl _) _) hb1⟩
end
end Go.Proofs.Ytaooglagddphnaa
