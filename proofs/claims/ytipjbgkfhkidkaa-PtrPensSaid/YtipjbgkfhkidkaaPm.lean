/- Plain memories: contracts of their calls; a lay in a block of its own. -/
import Derived.Test.YtipjbgkfhkidkaaLayF
import Derived.Test.YtipjbgkfhkidkaaTrB
namespace Go.Proofs.Ytipjbgkfhkidkaa
open Go.RowKit

set_option maxRecDepth 100000

theorem methp_store (k : Nat) (v : Value) (W : World) : Sem.run Try.prog (method (k + 1) 28 v "Store") W = .ok (84, v) W := by kernel_rfl
theorem methp_load (k : Nat) (v : Value) (W : World) : Sem.run Try.prog (method (k + 1) 28 v "Load") W = .ok (83, v) W := by kernel_rfl

theorem nilp_store (k : Nat) (v : Value) (W : World) : Sem.run Try.prog (nilAhead (k + 1) 28 v "Store") W = .ok (some false) W := by kernel_rfl
theorem nilp_load (k : Nat) (v : Value) (W : World) : Sem.run Try.prog (nilAhead (k + 1) 28 v "Load") W = .ok (some false) W := by kernel_rfl

/-- A plain memory's value. -/
abbrev pmV (p : Nat) : Value := .agg #[.pointer (some ⟨p, 0, none⟩)]
theorem pm_of (p : Nat) (w : World) : Calls Try.prog 9 #[.pointer (some ⟨p, 0, none⟩)] w fun e w' => e = .returned (pmV p) ∧ Below w.heap.size w w' := by
  unfold pmV
  go_enter Try.func9, Try.ntmps9
  go_wp2_with fail
  exact bodyPost_ret (v := .agg #[.pointer (some ⟨p, 0, none⟩)]) (by simp [results, Try.results9, go_sem]) rfl ⟨rfl, (Below.refl _ _).alloc (Nat.le_refl _) _⟩

section
variable {w : World} {p g n cap k m : Nat} {c f : Nat → Int}
theorem pm_load (A : Ar w p g n cap c f) (hk : k < n) (hm : CB c m) (hb : m ≤ 1000000) :
    Calls Try.prog 83 #[pmV p, .int .i64 (k : Int)] w fun e w' => e = .returned (.int .u64 (f k)) ∧ Ar w' p g n cap (upd c 0 (c 0 + 1)) f ∧ Only p g w w' := by
  unfold pmV
  have HA := Lib.hid A; clear A
  have HM := Lib.hid hm; clear hm
  go_enter Try.func83, Try.ntmps83
  go_wp2_with fail
  refine (load_yes (HA.out.alloc _) hk HM.out hb).mono ?_; rintro e w1 ⟨rfl, A1, O1⟩
  go_wp2_with fail
  go_ret
  exact ⟨rfl, A1, ((Only.refl _ _ _).alloc _).trans O1⟩
theorem pm_store (A : Ar w p g n cap c f) (hk : k < n) {x : Int} (hx0 : 0 ≤ x) (hx1 : x ≤ 18446744073709551615) (hm : CB c m) (hb : m ≤ 1000000) :
    Calls Try.prog 84 #[pmV p, .int .i64 (k : Int), .int .u64 x] w fun e w' => e = .returned (.tuple #[]) ∧ Ar w' p g n cap (upd c 1 (c 1 + 1)) (upd f k x) ∧ Only p g w w' := by
  unfold pmV
  have HA := Lib.hid A; clear A
  have HM := Lib.hid hm; clear hm
  go_enter Try.func84, Try.ntmps84
  go_wp2_with fail
  refine (store_yes (HA.out.alloc _) hk hx0 hx1 HM.out hb).mono ?_; rintro e w1 ⟨rfl, A1, O1⟩
  go_wp2_with fail
  go_end0
  exact ⟨rfl, A1, ((Only.refl _ _ _).alloc _).trans O1⟩
end

section
variable {w : World} {q p g n cap : Nat} {c f : Nat → Int}
theorem Ar.q_far (A : Ar w p g n cap c f) (h1 : q ≠ p) (h2 : q ≠ g) {j : Nat} (u : Value) : Ar (w.setCell ⟨q, j, none⟩ u) p g n cap c f := by
  obtain ⟨zs, hz, he⟩ := A.cells
  exact ⟨A.own.far (fun e => h1 e.symm) _, ⟨zs, hz.far (fun e => h2 e.symm) _, he⟩, A.le, A.few, A.fit⟩
end
/-- A store into a block that is new. -/
theorem Only.set_new {p g : Nat} {a w : World} (h : Only p g a w) {q : Nat} (hq : a.heap.size ≤ q) {j : Nat} (u : Value) : Only p g a (w.setCell ⟨q, j, none⟩ u) :=
  ⟨h.os, h.tape, h.output, by simpa [World.setCell] using h.size, fun i hi h1 h2 => (Below.heap_setCell w ⟨q, j, none⟩ u i (by simp only; omega)).trans (h.block i hi h1 h2)⟩
/-- A block that is new lies on behind an access of an arena. -/
theorem only_new {w w' : World} {p g n cap : Nat} {c f : Nat → Int} {cs : Array Value} {t : TypeId} (A : Ar w p g n cap c f) (ho : Only p g (w.alloc (.cells cs t)) w') : Blk w' w.heap.size t cs := by
  have h1 := A.p_lt
  have h2 := A.g_lt
  exact (Blk.new w t cs).only ho (by omega) (by omega)

/-- Four cells, stored one behind the other. -/
theorem Blk.four {w : World} {g : Nat} {t : TypeId} {x0 x1 x2 x3 : Value} (h : Blk w g t #[x0, x1, x2, x3]) (a b c d : Value) : Blk ((((w.setCell ⟨g, 0, none⟩ a).setCell ⟨g, 1, none⟩ b).setCell ⟨g, 2, none⟩ c).setCell ⟨g, 3, none⟩ d) g t #[a, b, c, d] :=
  (((h.set_ 0 a).set_ 1 b).set_ 2 c).set_ 3 d
theorem Blk.cells4 {w : World} {g : Nat} {t : TypeId} {a b c d : Value} (h : Blk w g t #[a, b, c, d]) : w.cell? ⟨g, 0, none⟩ = some a ∧ w.cell? ⟨g, 1, none⟩ = some b ∧ w.cell? ⟨g, 2, none⟩ = some c ∧ w.cell? ⟨g, 3, none⟩ = some d :=
  ⟨h.cell 0, h.cell 1, h.cell 2, h.cell 3⟩

/-- A lay in a block of its own. -/
def LyB (w : World) (b : Nat) (V : Int) (S : Nat) (T : Int) : Prop := Blk w b 31 #[.int .i64 V, .int .i64 S, .int .i64 T]
section
variable {w w' : World} {b p g n cap : Nat} {V T : Int} {S : Nat} {c f : Nat → Int}
theorem LyB.below (h : LyB w b V S T) (hb : Below w.heap.size w w') : LyB w' b V S T := Blk.below h hb (Blk.lt h)
theorem LyB.drew (h : LyB w b V S T) : LyB w.drew b V S T := h
theorem LyB.ne_p (h : LyB w b V S T) (A : Ar w p g n cap c f) : b ≠ p := Blk.ne_ h A.own (by decide)
theorem LyB.ne_g (h : LyB w b V S T) (A : Ar w p g n cap c f) : b ≠ g := by
  obtain ⟨zs, hz, _⟩ := A.cells
  exact Blk.ne_ h hz (by decide)
theorem LyB.only (h : LyB w b V S T) (A : Ar w p g n cap c f) (ho : Only p g w w') : LyB w' b V S T := Blk.only h ho (h.ne_p A) (h.ne_g A)
theorem LyB.cells (h : LyB w b V S T) : w.cell? ⟨b, 0, none⟩ = some (.int .i64 V) ∧ w.cell? ⟨b, 1, none⟩ = some (.int .i64 S) ∧ w.cell? ⟨b, 2, none⟩ = some (.int .i64 T) := ⟨Blk.cell h 0, Blk.cell h 1, Blk.cell h 2⟩
theorem LyB.lt (h : LyB w b V S T) : b < w.heap.size := Blk.lt h
end

end Go.Proofs.Ytipjbgkfhkidkaa
