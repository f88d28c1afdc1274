/- Contracts of begin, next in one, same, and Equal of any two values. -/
import Derived.Test.YtboagdmjibdlhaaDoorValF
import Derived.Deep.LoopGhost
namespace Go.Proofs.YtboagdmjibdlhaaDoor
open Go.RowKit

theorem row_lit {w' : World} {B q : Nat} {e : TypeId} {x y : Value} (hb : B ≤ q) (h : Blk w' q e #[x, y]) : w'.ownsRow B e 2 (.slice (some ⟨q, 0, none⟩) 1 1) 1 [x, y] :=
  ⟨rfl, .inr ⟨q, 1, #[x, y], rfl, hb, h, Nat.le_refl _, by unfold maxLen; omega, rfl, rfl⟩⟩

/-- The list that holds a value alone. -/
def root (g : Nat) (x : Tr) : Fr := ⟨some ⟨g, 0, none⟩, 1, 1, fun _ => x, 0⟩
theorem root_todo (g : Nat) (x : Tr) : rem [root g x] = x.evs := by simp [rem, Fr.todo, root]

theorem Tr.val_kind (x : Tr) : x.val = .nilIface ∨ ∃ u y, x.val = .iface u y := by
  cases x with
  | one a => cases a <;> simp [Tr.val, Atom.val]
  | lst => exact .inr ⟨_, _, rfl⟩

theorem begin_val (v : Value) (w : World) (hv : v = .nilIface ∨ ∃ u y, v = .iface u y) :
    Calls Tryd.prog 32 #[v] w fun e w' => e = .returned (.pointer (some ⟨w.heap.size + 2, 0, none⟩)) ∧
      w' = ((w.alloc (.cells #[v] 20)).alloc (.cells #[.slice (some ⟨w.heap.size, 0, none⟩) 1 1, .int .i64 0] 76)).alloc (.cells #[.slice (some ⟨w.heap.size + 1, 0, none⟩) 1 1, .int .i64 0] 79) := by
  rcases hv with rfl | ⟨u, y, rfl⟩
  · go_enter Tryd.func32, Tryd.ntmps32
    go_wp2
    go_ret
    exact ⟨by simp, rfl⟩
  · go_enter Tryd.func32, Tryd.ntmps32
    go_wp2
    go_ret
    exact ⟨by simp, rfl⟩

theorem begin_any (x : Tr) (w : World) (hx : x.Lies w) (hev : x.evs.length ≤ 900000000) :
    Calls Tryd.prog 32 #[x.val] w fun e w' => e = .returned (.pointer (some ⟨w.heap.size + 2, 0, none⟩)) ∧ Wk w' w.heap.size (w.heap.size + 2) (w.heap.size + 1) 1 0 [root w.heap.size x] ∧ Below w.heap.size w w' ∧ w'.heap.size = w.heap.size + 3 := by
  have HX := Lib.hid hx; clear hx
  have HE := Lib.hid hev; clear hev
  have hv : Hid (∀ w' : World, Keeps w w' → VBlk w' w.heap.size #[x.val] → Nest w' [root w.heap.size x]) := fun w' hk hb => by
    have hl : (root w.heap.size x).tree.Lies w' := by
      refine ⟨fun _ => ⟨w.heap.size, #[x.val], rfl, hb, fun i hi => ?_⟩, fun _ _ => HX.out.keep hk⟩
      have : i < 1 := hi
      obtain rfl : i = 0 := by omega
      rfl
    exact ⟨⟨Nat.zero_le _, by simp [root]⟩, hl, by simp, trivial⟩
  generalize hxv : x.val = v at *
  have HV := Lib.hid hxv; clear hxv
  refine (begin_val v w (by rw [← HV.out]; exact x.val_kind)).mono ?_
  rintro e w' ⟨rfl, rfl⟩
  refine ⟨by simp, ?_, ?_, by simp⟩
  · have h1 := ((Blk.new w 20 #[v]).alloc (.cells #[.slice (some ⟨w.heap.size, 0, none⟩) 1 1, .int .i64 0] 76)).alloc (.cells #[.slice (some ⟨w.heap.size + 1, 0, none⟩) 1 1, .int .i64 0] 79)
    have h2 := (Blk.new (w.alloc (.cells #[v] 20)) 76 #[.slice (some ⟨w.heap.size, 0, none⟩) 1 1, .int .i64 0]).alloc (.cells #[.slice (some ⟨w.heap.size + 1, 0, none⟩) 1 1, .int .i64 0] 79)
    have h3 := Blk.new ((w.alloc (.cells #[v] 20)).alloc (.cells #[.slice (some ⟨w.heap.size, 0, none⟩) 1 1, .int .i64 0] 76)) 79 #[.slice (some ⟨w.heap.size + 1, 0, none⟩) 1 1, .int .i64 0]
    simp at h1 h2 h3
    refine ⟨by simpa using h3, ?_, by simp, hv.out _ ?_ h1, ?_, ⟨Nat.le_refl _, by unfold maxLen; simp⟩, by omega⟩
    · exact row_lit (by omega) h2
    · exact ((Keeps.alloc _ _).trans (Keeps.alloc _ _)).trans (Keeps.alloc _ _)
    · rw [root_todo]
      have := HE.out
      simp
      omega
  · exact (((Below.refl _ _).alloc (Nat.le_refl _) _).alloc (by simp) _).alloc (by simp; omega) _

/-- What the first event is called, and the value that is told with it. -/
def code : List Ev → Int
  | [] => 0
  | .op :: _ => 2
  | .cl :: _ => 3
  | .one _ :: _ => 4
def told : List Ev → Value
  | .one a :: _ => a.val
  | _ => .nilIface

/-- What next leaves. -/
def After (B p q : Nat) (evs : List Ev) (w w' : World) : Prop :=
  Only p q w w' ∧ ∃ q', (q' = q ∨ w.heap.size ≤ q') ∧ ∀ ev rest, evs = ev :: rest → ∃ cap' m' st', st' ≠ [] ∧ rem st' = rest ∧ Wk w' B p q' cap' m' st'

theorem after_of {B p q : Nat} {w w' : World} {st' : List Fr} {ev : Ev} {evs : List Ev} (he : evs = ev :: rem st') (hs : st' ≠ []) (h : Entered B p q st' w w') : After B p q evs w w' := by
  obtain ⟨q', cap', m', A, O, hq⟩ := h
  refine ⟨O, q', hq, fun ev' rest h => ?_⟩
  rw [he] at h
  injection h with _ h
  exact ⟨cap', m', st', hs, h, A⟩

theorem next_any {B p q cap m : Nat} {w : World} {st : List Fr} (A : Wk w B p q cap m st) (hne : st ≠ []) :
    Calls Tryd.prog 33 #[.pointer (some ⟨p, 0, none⟩)] w fun e w' => e = .returned (.tuple #[.int .i64 (code (rem st)), told (rem st)]) ∧ After B p q (rem st) w w' := by
  match st, hne, A with
  | f :: r, _, A =>
    by_cases hk : f.k < f.n
    · cases ha : f.xs f.k with
      | one a =>
        have hr := rem_one (r := r) hk ha
        rw [hr]
        exact (next_one A hk ha).mono fun e w' ⟨he, h⟩ => ⟨he, after_of rfl (by simp) h⟩
      | lst a n c xs =>
        have hr := rem_open (r := r) hk ha
        rw [hr]
        exact (next_open A hk ha).mono fun e w' ⟨he, h⟩ => ⟨he, after_of rfl (by simp) h⟩
    · have hk' : f.k = f.n := by have := A.nest.1.1; omega
      match r, A with
      | [], A =>
        rw [rem_over hk']
        refine (next_over A hk').mono fun e w' h => ?_
        obtain ⟨he, k, rfl⟩ := h
        exact ⟨he, (Only.refl p q w).drewN k, q, .inl rfl, fun _ _ h => by cases h⟩
      | g :: r, A =>
        rw [rem_close hk']
        exact (next_closed A hk').mono fun e w' ⟨he, h⟩ => ⟨he, after_of rfl (by simp) h⟩

/-- Two values that are no lists: are they one? -/
def sameA : Atom → Atom → Bool
  | .num a, .num b => a == b
  | .txt a, .txt b => a.toList == b.toList
  | .sgn a, .sgn b => a == b
  | _, _ => false

/-- Two rows of events: are they of values that are one? -/
def sameE : List Ev → List Ev → Bool
  | [], [] => true
  | .op :: r, .op :: s => sameE r s
  | .cl :: r, .cl :: s => sameE r s
  | .one a :: r, .one b :: s => sameA a b && sameE r s
  | _, _ => false
end Go.Proofs.YtboagdmjibdlhaaDoor
