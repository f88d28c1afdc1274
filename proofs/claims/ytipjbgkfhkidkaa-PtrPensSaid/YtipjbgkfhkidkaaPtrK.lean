/- Two pens and four cells, plainly; and their memory. -/
import Derived.Test.YtipjbgkfhkidkaaPtrJ
namespace Go.Proofs.Ytipjbgkfhkidkaa
open Go.RowKit

set_option maxRecDepth 100000

/-- Of each pen its tag, and has it committed; of each cell: was it written and not cleaned, its old number, its new one. -/
structure Sx where
  g : Nat → Nat
  s : Nat → Bool
  wr : Nat → Bool
  o : Nat → Int
  n : Nat → Int

namespace Sx
variable (x : Sx)
/-- What a cell means. -/
def mean (j : Nat) : Int := if x.wr j && !x.s (j / 2) then x.o j else x.n j
def O (j : Nat) : Int := if x.wr j then x.o j else x.n j
def T (j : Nat) : Int := if x.wr j then ((j / 2 : Nat) : Int) + 1 else 0
def G (j : Nat) : Int := if x.wr j then (x.g (j / 2) : Int) else 0
def write (j : Nat) (X : Int) : Sx := ⟨x.g, x.s, fun i => if i = j then true else x.wr i, fun i => if i = j then x.O j else x.o i, fun i => if i = j then X else x.n i⟩
def commit (q : Nat) : Sx := ⟨x.g, fun i => if i = q then true else x.s i, x.wr, x.o, x.n⟩
def clean (j : Nat) : Sx := ⟨x.g, x.s, fun i => if i = j then false else x.wr i, x.o, x.n⟩
def end_ (q : Nat) : Sx := ⟨fun i => if i = q then x.g q + 1 else x.g i, fun i => if i = q then false else x.s i, x.wr, x.o, x.n⟩
end Sx

theorem right_wd {z x th tg : Int} (h1 : 0 ≤ z) (h2 : z ≤ 65535) (h3 : 0 ≤ x) (h4 : x ≤ 65535) (h5 : 1 ≤ th) (h6 : th ≤ 8) (h7 : 0 ≤ tg) (h8 : tg ≤ 16777215) : rightW z x th tg = true := by
  rw [rightW_eq]; exact decide_eq_true (by omega)
theorem stateV_in (t : Nat) (d : Bool) (h : t ≤ 16777215) : 0 ≤ stateV t d ∧ stateV t d < 33554432 ∧ stateV t d / 2 = t ∧ (stateV t d % 2 != 0) = d := by
  unfold stateV
  cases d
  · refine ⟨by simp; omega, by simp; omega, by simp, ?_⟩
    rw [bne_eq_false_iff_eq]; simp
  · refine ⟨by simp; omega, by simp; omega, by simp; omega, ?_⟩
    rw [bne_iff_ne]; simp
theorem mnS_state {o n th tg : Int} (hW : rightW o n th tg = true) (h0 : th ≠ 0) (t : Nat) (d : Bool) (ht : t ≤ 16777215) : mnS o n th tg (stateV t d) = if tg < t ∨ (tg = t ∧ d = true) then n else o := by
  obtain ⟨h1, h2, h3, h4⟩ := stateV_in t d ht
  unfold mnS meansW
  have h9 : (th == 0) = false := by rw [beq_eq_false_iff_ne]; exact h0
  rw [if_pos h2, h3, h4, hW, h9]
  by_cases a1 : tg < (t : Int)
  · simp [a1]
  · by_cases a2 : tg = (t : Int)
    · subst a2; cases d <;> simp
    · have a3 : ¬ (t : Int) = tg := fun e => a2 e.symm
      simp [a1, a2, a3]

/-- What the numbers of memory say of it. -/
structure Rp (f : Nat → Int) (x : Sx) : Prop where
  st : ∀ q, q < 2 → f q = stateV (x.g q) (x.s q)
  bo : ∀ j, j < 4 → 0 ≤ x.o j ∧ x.o j ≤ 65535
  bn : ∀ j, j < 4 → 0 ≤ x.n j ∧ x.n j ≤ 65535
  tg : ∀ q, q < 2 → x.g q ≤ 1000000
  cl : ∀ j, j < 4 → f (atK j) = bitsW (x.O j) (x.n j) (x.T j) (x.G j)

section
variable {f : Nat → Int} {x : Sx} {j q : Nat} {X : Int}
theorem Rp.right (h : Rp f x) (hj : j < 4) : rightW (x.O j) (x.n j) (x.T j) (x.G j) = true := by
  have h1 := h.bo j hj
  have h2 := h.bn j hj
  have h3 := h.tg (j / 2) (by omega)
  unfold Sx.O Sx.T Sx.G
  cases x.wr j
  · exact right_plain h2.1 h2.2
  · rw [rightW_eq]; refine decide_eq_true ?_; simp only [if_true]; omega
theorem Rp.isW (h : Rp f x) (hj : j < 4) : IsW (f (atK j)) (x.O j) (x.n j) (x.T j) (x.G j) ∧ rightV (f (atK j)) = true := by
  rw [h.cl j hj]
  exact isW_bits (h.right hj)
theorem Rp.mean (h : Rp f x) (hj : j < 4) : mnF f (f (atK j)) = x.mean j := by
  have hI := (h.isW hj).1
  have hR := h.right hj
  unfold mnF
  rw [hI.o, hI.n, hI.th, hI.tg]
  unfold Sx.T Sx.O Sx.G Sx.mean at *
  cases hw : x.wr j
  · simp
  · simp only [hw, if_true] at hR ⊢
    have h0 : ¬ (((j / 2 : Nat) : Int) + 1 = 0) := by omega
    rw [if_neg h0, show ((((j / 2 : Nat) : Int) + 1) - 1).toNat = j / 2 by omega, h.st (j / 2) (by omega), mnS_state hR h0 _ _ (by have := h.tg (j / 2) (by omega); omega)]
    cases x.s (j / 2) <;> simp
theorem Rp.oldO (h : Rp f x) (hj : j < 4) : 0 ≤ x.O j ∧ x.O j ≤ 65535 := by
  have h1 := h.bo j hj
  have h2 := h.bn j hj
  unfold Sx.O
  split
  · exact h1
  · exact h2
theorem wrO_x (x : Sx) (j : Nat) : wrO (x.O j) (x.n j) (x.T j) (x.G j) (((j / 2 : Nat) : Int) + 1) (x.g (j / 2) : Int) = x.O j := by
  unfold wrO Sx.O Sx.T Sx.G
  cases x.wr j
  · simp
  · simp
theorem Rp.write (h : Rp f x) (hj : j < 4) (h0 : 0 ≤ X) (h1 : X ≤ 65535) : Rp (upd f (atK j) (bitsW (x.O j) X (((j / 2 : Nat) : Int) + 1) (x.g (j / 2) : Int))) (x.write j X) := by
  refine ⟨fun q hq => ?_, fun i hi => ?_, fun i hi => ?_, fun q hq => h.tg q hq, fun i hi => ?_⟩
  · rw [upd_other _ _ (by have := atK_ge j; omega)]
    exact h.st q hq
  · simp only [Sx.write]
    split
    · exact h.oldO hj
    · exact h.bo i hi
  · simp only [Sx.write]
    split
    · exact ⟨h0, h1⟩
    · exact h.bn i hi
  · by_cases e : i = j
    · subst e
      rw [upd_same]
      simp [Sx.write, Sx.O, Sx.T, Sx.G]
    · rw [upd_other _ _ (fun e' => e (atK_inj e')), h.cl i hi]
      simp [Sx.write, Sx.O, Sx.T, Sx.G, e]
theorem Rp.state (h : Rp f x) (hq : q < 2) : Rp (upd f q (stateV (x.g q) false)) x ↔ x.s q = false ∨ Rp (upd f q (stateV (x.g q) false)) x := ⟨.inr, fun k => by
  rcases k with k | k
  · have e : upd f q (stateV (x.g q) false) = f := by
      funext i
      by_cases hi : i = q
      · subst hi; rw [upd_same, h.st i hq, k]
      · rw [upd_other _ _ hi]
    rw [e]; exact h
  · exact k⟩
theorem Rp.commit (h : Rp f x) (hq : q < 2) : Rp (upd f q (stateV (x.g q) true)) (x.commit q) := by
  refine ⟨fun i hi => ?_, h.bo, h.bn, h.tg, fun i hi => ?_⟩
  · by_cases e : i = q
    · subst e; rw [upd_same]; simp [Sx.commit]
    · rw [upd_other _ _ e, h.st i hi]; simp [Sx.commit, e]
  · rw [upd_other _ _ (by have := atK_ge i; omega)]
    exact h.cl i hi
theorem Rp.clean (h : Rp f x) (hj : j < 4) : Rp (upd f (atK j) (bitsW (x.n j) (x.n j) 0 0)) (x.clean j) := by
  refine ⟨fun q hq => ?_, h.bo, h.bn, h.tg, fun i hi => ?_⟩
  · rw [upd_other _ _ (by have := atK_ge j; omega)]
    exact h.st q hq
  · by_cases e : i = j
    · subst e; rw [upd_same]; simp [Sx.clean, Sx.O, Sx.T, Sx.G]
    · rw [upd_other _ _ (fun e' => e (atK_inj e')), h.cl i hi]
      simp [Sx.clean, Sx.O, Sx.T, Sx.G, e]
theorem Rp.clean_no (h : Rp f x) (hw : x.wr j = false) : Rp f (x.clean j) := by
  have e : x.clean j = x := by
    unfold Sx.clean
    cases x
    simp only [Sx.mk.injEq, true_and, and_true]
    funext i
    split
    · rename_i e; subst e; exact hw.symm
    · rfl
  rw [e]; exact h
theorem Rp.end_ (h : Rp f x) (hq : q < 2) (hg : x.g q + 1 ≤ 1000000) (hc : ∀ j, j < 4 → j / 2 = q → x.wr j = false) : Rp (upd f q (stateV ((x.g q : Int) + 1) false)) (x.end_ q) := by
  refine ⟨fun i hi => ?_, h.bo, h.bn, fun i hi => ?_, fun i hi => ?_⟩
  · by_cases e : i = q
    · subst e; rw [upd_same]; simp [Sx.end_]
    · rw [upd_other _ _ e, h.st i hi]; simp [Sx.end_, e]
  · simp only [Sx.end_]
    split
    · exact hg
    · exact h.tg i hi
  · rw [upd_other _ _ (by have := atK_ge i; omega), h.cl i hi]
    by_cases e : i / 2 = q
    · simp [Sx.end_, Sx.O, Sx.T, Sx.G, hc i hi e]
    · simp [Sx.end_, Sx.O, Sx.T, Sx.G, e]
end

/-- An arena whose numbers say so. -/
def MA (W : World) (p g m : Nat) (x : Sx) : Prop := ∃ c f : Nat → Int, Ar W p g 42 42 c f ∧ CB c m ∧ Rp f x
/-- What a call leaves that only writes into the arena. -/
def Did (p g m : Nat) (x : Sx) (v : Value) (w : World) (e : Ending) (w' : World) : Prop := e = .returned v ∧ MA w' p g m x ∧ Only p g w w'

section
variable {w w' : World} {p g m m' j q : Nat} {x : Sx} {X : Int}
theorem MA.more (h : MA w p g m x) (hm : m ≤ m') : MA w p g m' x := by
  obtain ⟨c, f, A, C, R⟩ := h
  exact ⟨c, f, A, C.more hm, R⟩
theorem MA.below (h : MA w p g m x) (hb : Below w.heap.size w w') : MA w' p g m x := by
  obtain ⟨c, f, A, C, R⟩ := h
  exact ⟨c, f, A.below hb (Nat.le_refl _), C, R⟩
theorem MA.lt (h : MA w p g m x) : p < w.heap.size ∧ g < w.heap.size := by
  obtain ⟨c, f, A, C, R⟩ := h
  exact ⟨A.p_lt, A.g_lt⟩
theorem ma_write (h : MA w p g m x) (hj : j < 4) (hq : j / 2 = q) {th tg : Int} (hth : th = (q : Int) + 1) (htg : tg = (x.g q : Int)) (h0 : 0 ≤ X) (h1 : X ≤ 65535) (hm : m ≤ 900000) :
    Calls Try.prog 15 #[vP th tg, .iface 28 (pmV p), .int .i64 (atK j : Int), .int .i64 X] w (Did p g (m + 2) (x.write j X) (.tuple #[]) w) := by
  subst hth htg hq
  obtain ⟨c, f, A, C, R⟩ := h
  have hI := R.isW hj
  have ho := R.oldO hj
  have hg := R.tg (j / 2) (by omega)
  refine (write_is A (atK_lt hj) hI.1 hI.2 (wrO_x x j) (right_wd ho.1 ho.2 h0 h1 (by omega) (by omega) (by omega) (by omega)) C (by omega)).mono ?_
  rintro e w' ⟨rfl, A', O'⟩
  exact ⟨rfl, ⟨_, _, A', (C.upd 0).upd 1, R.write hj h0 h1⟩, O'⟩
theorem ma_clean (h : MA w p g m x) (hj : j < 4) {th tg : Int} (hm : m ≤ 900000) :
    Calls Try.prog 17 #[vP th tg, .iface 28 (pmV p), .int .i64 (atK j : Int)] w (Did p g (m + 2) (x.clean j) (.tuple #[]) w) := by
  obtain ⟨c, f, A, C, R⟩ := h
  have hI := R.isW hj
  refine (clean_yes A (atK_lt hj) hI.1 hI.2 C (by omega)).mono ?_
  rintro e w' ⟨rfl, A', O'⟩
  exact ⟨rfl, ⟨_, _, A', (C.upd 0).upd 1, R.clean hj⟩, O'⟩
theorem ma_begin (h : MA w p g m x) (hq : q < 2) (hs : x.s q = false) {th tg : Int} (hth : th = (q : Int) + 1) (htg : tg = (x.g q : Int)) (hm : m ≤ 900000) :
    Calls Try.prog 14 #[vP th tg, .iface 28 (pmV p), vL 2 0 8] w (Did p g (m + 1) x (.tuple #[]) w) := by
  subst hth htg
  obtain ⟨c, f, A, C, R⟩ := h
  have hg := R.tg q hq
  refine (begin_any (S := 0) rt8 rfl (by omega) A (by omega) (by omega) (by omega) C (by omega)).mono ?_
  rintro e w' ⟨rfl, A', O'⟩
  exact ⟨rfl, ⟨_, _, A', C.upd 1, (R.state hq).2 (.inl hs)⟩, O'⟩
theorem ma_commit (h : MA w p g m x) (hq : q < 2) {th tg : Int} (hth : th = (q : Int) + 1) (htg : tg = (x.g q : Int)) (hm : m ≤ 900000) :
    Calls Try.prog 16 #[vP th tg, .iface 28 (pmV p), vL 2 0 8] w (Did p g (m + 1) (x.commit q) (.tuple #[]) w) := by
  subst hth htg
  obtain ⟨c, f, A, C, R⟩ := h
  have hg := R.tg q hq
  refine (commit_any (S := 0) rt8 rfl (by omega) A (by omega) (by omega) (by omega) C (by omega)).mono ?_
  rintro e w' ⟨rfl, A', O'⟩
  exact ⟨rfl, ⟨_, _, A', C.upd 1, R.commit hq⟩, O'⟩
theorem ma_end (h : MA w p g m x) (hq : q < 2) (hg : x.g q + 1 ≤ 1000000) (hc : ∀ j, j < 4 → j / 2 = q → x.wr j = false) {th tg : Int} (hth : th = (q : Int) + 1) (htg : tg = (x.g q : Int)) (hm : m ≤ 900000) :
    Calls Try.prog 18 #[vP th tg, .iface 28 (pmV p), vL 2 0 8] w (Did p g (m + 1) (x.end_ q) (.tuple #[]) w) := by
  subst hth htg
  obtain ⟨c, f, A, C, R⟩ := h
  refine (end_any (S := 0) rt8 rfl (by omega) A (by omega) (by omega) (by omega) C (by omega)).mono ?_
  rintro e w' ⟨rfl, A', O'⟩
  exact ⟨rfl, ⟨_, _, A', C.upd 1, R.end_ hq hg hc⟩, O'⟩
theorem ma_means (h : MA w p g m x) (hj : j < 4) (hm : m ≤ 900000) :
    Calls Try.prog 19 #[.iface 28 (pmV p), vL 2 0 8, .int .i64 (atK j : Int)] w (Did p g (m + 2) x (.int .i64 (x.mean j)) w) := by
  obtain ⟨c, f, A, C, R⟩ := h
  refine (Means_8 A (atK_lt hj) (R.mean hj) C (by omega)).mono ?_
  rintro e w' ⟨rfl, c', A', C', _, O'⟩
  exact ⟨rfl, ⟨_, _, A', C', R⟩, O'⟩
theorem ma_new (h : MA w p g m x) (hj : j < 4) (hm : m ≤ 900000) :
    Calls Try.prog 20 #[.iface 28 (pmV p), .int .i64 (atK j : Int)] w (Did p g (m + 1) x (.int .i64 (x.n j)) w) := by
  obtain ⟨c, f, A, C, R⟩ := h
  refine (new_any A (atK_lt hj) (R.isW hj).1 C (by omega)).mono ?_
  rintro e w' ⟨rfl, A', O'⟩
  exact ⟨rfl, ⟨_, _, A', C.upd 0, R⟩, O'⟩
end
end Go.Proofs.Ytipjbgkfhkidkaa
