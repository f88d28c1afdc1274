/- The statements' lay, their cells and their arena; what stands in memory while they go on. -/
import Derived.Test.YtipjbgkfhkidkaaPtrG
namespace Go.Proofs.Ytipjbgkfhkidkaa
open Go.RowKit

set_option maxRecDepth 100000

theorem rt8 : Rt 2 ((0 : Nat) : Int) 8 := ⟨by decide, by decide, by decide, by decide, by decide, by decide⟩
/-- The cell of a node's parent, of the nodes from 0 on. -/
def atK (i : Nat) : Nat := 16 + 7 * i
theorem atK_lt {i : Nat} (h : i < 4) : atK i < 42 := by unfold atK; omega
theorem atK_ge (i : Nat) : 8 ≤ atK i := by unfold atK; omega
theorem atK_inj {i j : Nat} (h : atK i = atK j) : i = j := by unfold atK at h; omega
theorem atK_field {i : Nat} (h : i < 4) : fieldF 2 ((0 : Nat) : Int) 8 ((i : Int) + 1) 2 = (atK i : Int) := by
  have e1 : nd 2 ((0 : Nat) : Int) = 4 := by decide
  have e2 : o5 2 ((0 : Nat) : Int) 8 = 14 := by decide
  unfold fieldF
  rw [e1, e2, if_pos (by omega)]
  unfold atK
  omega

section
variable {w w' : World}
theorem small_any : Calls Try.prog 10 #[] w fun e w' => e = .returned (vL 2 ((0 : Nat) : Int) 8) ∧ Below w.heap.size w w' := by
  go_enter Try.func10, Try.ntmps10
  go_wp2_with fail
  exact bodyPost_ret (v := vL 2 0 8) (by simp [results, Try.results10, go_sem]) rfl ⟨rfl, (Below.refl _ _).alloc (Nat.le_refl _) _⟩

theorem at_any {i : Nat} (h : i < 4) : Calls Try.prog 12 #[.int .i64 (i : Int)] w fun e w' => e = .returned (.int .i64 (atK i : Int)) ∧ Below w.heap.size w w' := by
  have HE := Lib.hid (atK_field h)
  have h4 : (i : Int) < 4 := by omega
  go_enter Try.func12, Try.ntmps12
  go_wp2_with fail
  refine small_any.mono ?_; rintro e w1 ⟨rfl, hb1⟩
  go_wp2_with fail
  refine (field_yes 2 ((0 : Nat) : Int) 8 ((i : Int) + 1) 2 rt8 (by omega) (by omega) _).mono ?_; rintro e w2 ⟨rfl, hb2⟩; rw [HE.out]
  go_wp2_with fail
  go_ret
  exact ⟨rfl, keepL hb1 hb2 hb1.size⟩
theorem at_is {i : Nat} {x : Int} (h : i < 4) (hx : x = (i : Int)) : Calls Try.prog 12 #[.int .i64 x] w fun e w' => e = .returned (.int .i64 (atK i : Int)) ∧ Below w.heap.size w w' := by
  subst hx
  exact at_any h

/-- An arena at first. -/
def Begun (w : World) (e : Ending) (w' : World) : Prop :=
  ∃ p g, e = .returned (.pointer (some ⟨p, 0, none⟩)) ∧ w.heap.size ≤ p ∧ w.heap.size ≤ g ∧ Ar w' p g 42 42 zeroF zeroF ∧ Below w.heap.size w w'
theorem begun_any : Calls Try.prog 8 #[] w (Begun w) := by
  have e1 : cn 2 ((0 : Nat) : Int) 8 = 42 := by decide
  have HE := Lib.hid e1
  clear e1
  go_enter Try.func8, Try.ntmps8
  go_wp2_with fail
  refine small_any.mono ?_; rintro e w1 ⟨rfl, hb1⟩
  go_wp2_with fail
  refine (cells_yes 2 ((0 : Nat) : Int) 8 rt8 _).mono ?_; rintro e w2 ⟨rfl, hb2⟩; rw [HE.out]
  have HB := Lib.hid (keepL hb1 hb2 hb1.size)
  clear hb1 hb2
  go_wp2_with fail
  refine (new_yes 42 _ (by omega)).mono ?_; rintro e w3 ⟨rfl, A, hb3⟩
  have HB3 := Lib.hid (keepL HB.out hb3 HB.out.size)
  have HA := Lib.hid A
  have hs := Lib.hid HB.out.size
  clear A hb3
  go_wp2_with fail
  go_ret
  exact ⟨_, _, rfl, by have := hs.out; omega, hs.out, HA.out, HB3.out⟩
end

/-- A pen in a variable of its own. -/
def PnB (w : World) (b : Nat) (th tg : Int) : Prop := Blk w b 41 #[.int .i64 th, .int .i64 tg]
/-- The statements' variables: a memory, a lay, a pen. -/
structure VS (mb lb pb p : Nat) (th tg : Int) (W : World) : Prop where
  m : MbB W mb p
  l : LyB W lb 2 0 8
  pn : PnB W pb th tg
/-- What stands in memory: an arena of the lay, its counts, its numbers; the variables; all that was there ahead stands. -/
structure PS (w0 : World) (p g mb lb pb m : Nat) (th tg : Int) (c f : Nat → Int) (W : World) : Prop where
  ar : Ar W p g 42 42 c f
  cb : CB c m
  vs : VS mb lb pb p th tg W
  be : Below w0.heap.size w0 W
  np : w0.heap.size ≤ p
  ng : w0.heap.size ≤ g

section
variable {w0 W W' : World} {p g mb lb pb m m' q : Nat} {th tg : Int} {c f c' f' : Nat → Int}
theorem VS.cells (h : VS mb lb pb p th tg W) : W.cell? ⟨mb, 0, none⟩ = some (.pointer (some ⟨p, 0, none⟩)) ∧ W.cell? ⟨lb, 0, none⟩ = some (.int .i64 2) ∧ W.cell? ⟨lb, 1, none⟩ = some (.int .i64 0) ∧ W.cell? ⟨lb, 2, none⟩ = some (.int .i64 8) ∧ W.cell? ⟨pb, 0, none⟩ = some (.int .i64 th) ∧ W.cell? ⟨pb, 1, none⟩ = some (.int .i64 tg) :=
  ⟨Blk.cell h.m 0, Blk.cell h.l 0, Blk.cell h.l 1, Blk.cell h.l 2, Blk.cell h.pn 0, Blk.cell h.pn 1⟩
theorem VS.lts (h : VS mb lb pb p th tg W) : mb < W.heap.size ∧ lb < W.heap.size ∧ pb < W.heap.size := ⟨Blk.lt h.m, Blk.lt h.l, Blk.lt h.pn⟩
theorem VS.below (h : VS mb lb pb p th tg W) (hb : Below W.heap.size W W') : VS mb lb pb p th tg W' := ⟨Blk.later h.m hb, Blk.later h.l hb, Blk.later h.pn hb⟩
theorem PS.below (h : PS w0 p g mb lb pb m th tg c f W) (hb : Below W.heap.size W W') : PS w0 p g mb lb pb m th tg c f W' :=
  ⟨h.ar.below hb (Nat.le_refl _), h.cb, h.vs.below hb, keepL h.be hb h.be.size, h.np, h.ng⟩
theorem PS.drew (h : PS w0 p g mb lb pb m th tg c f W) : PS w0 p g mb lb pb m th tg c f W.drew := h.below (Below.refl _ _).drew
theorem PS.alloc (h : PS w0 p g mb lb pb m th tg c f W) (o : Obj) : PS w0 p g mb lb pb m th tg c f (W.alloc o) := h.below ((Below.refl _ _).alloc (Nat.le_refl _) o)
theorem PS.arena (h : PS w0 p g mb lb pb m th tg c f W) (A : Ar W' p g 42 42 c' f') (hc : CB c' m') (ho : Only p g W W') : PS w0 p g mb lb pb m' th tg c' f' W' :=
  ⟨A, hc, ⟨Blk.arena h.vs.m h.ar ho (by decide) (by decide), Blk.arena h.vs.l h.ar ho (by decide) (by decide), Blk.arena h.vs.pn h.ar ho (by decide) (by decide)⟩, Only.below h.be ho h.be.size h.np h.ng, h.np, h.ng⟩
/-- A look's step. -/
theorem PS.look {V : Int} {S k : Nat} {T a o x th' tg' y : Int} (h : PS w0 p g mb lb pb m th tg c f W) (hL : Lk W q V S T k a o x th' tg' y) (hq : w0.heap.size ≤ q) (A : Ar W' p g 42 42 c' f') (hc : CB c' m') (ho : OnlyT q p g none W W') : PS w0 p g mb lb pb m' th tg c' f' W' :=
  ⟨A, hc, ⟨Blk.onlyT h.vs.m ho (fun e => (Blk.ne_ h.vs.m hL (by decide)) e) (Blk.ne_p h.vs.m h.ar (by decide)) (Blk.ne_g h.vs.m h.ar (by decide)) (by simp),
    Blk.onlyT h.vs.l ho (fun e => (Blk.ne_ h.vs.l hL (by decide)) e) (Blk.ne_p h.vs.l h.ar (by decide)) (Blk.ne_g h.vs.l h.ar (by decide)) (by simp),
    Blk.onlyT h.vs.pn ho (fun e => (Blk.ne_ h.vs.pn hL (by decide)) e) (Blk.ne_p h.vs.pn h.ar (by decide)) (Blk.ne_g h.vs.pn h.ar (by decide)) (by simp)⟩,
    OnlyT.below h.be ho h.be.size hq h.np h.ng (by simp), h.np, h.ng⟩
/-- The variables, laid one behind the other. -/
theorem PS.vars (A : Ar W p g 42 42 c f) (hc : CB c m) (hb : Below w0.heap.size w0 W) (np : w0.heap.size ≤ p) (ng : w0.heap.size ≤ g) :
    PS w0 p g W.heap.size (W.heap.size + 1) (W.heap.size + 2) m th tg c f (((W.alloc (.cells #[.pointer (some ⟨p, 0, none⟩)] 28)).alloc (.cells #[.int .i64 2, .int .i64 0, .int .i64 8] 31)).alloc (.cells #[.int .i64 th, .int .i64 tg] 41)) := by
  refine ⟨((A.alloc _).alloc _).alloc _, hc, ⟨((Blk.new W _ _).alloc _).alloc _, (new_next W _ _ _ _).alloc _, ?_⟩, ((hb.alloc hb.size _).alloc (by have := hb.size; simp; omega) _).alloc (by have := hb.size; simp; omega) _, np, ng⟩
  have := Blk.new ((W.alloc (.cells #[.pointer (some ⟨p, 0, none⟩)] 28)).alloc (.cells #[.int .i64 2, .int .i64 0, .int .i64 8] 31)) 41 #[.int .i64 th, .int .i64 tg]
  unfold PnB
  simpa using this
end
end Go.Proofs.Ytipjbgkfhkidkaa
