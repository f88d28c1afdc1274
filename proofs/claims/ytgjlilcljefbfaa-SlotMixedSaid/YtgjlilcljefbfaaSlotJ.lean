/- Steps of takes and gives, told by plain free slots. -/
import Derived.Test.YtgjlilcljefbfaaSlotI
namespace Go.Proofs.Ytgjlilcljefbfaa
open Go.RowKit

set_option maxRecDepth 100000

/-- A head as a number. -/
def enc (h : Nat × Nat) : Int := (h.1 : Int) * 65536 + h.2
theorem enc_mod {h : Nat × Nat} (hk : h.2 < 65536) : enc h % 65536 = (h.2 : Int) := by unfold enc; omega
theorem enc_div {h : Nat × Nat} (hk : h.2 < 65536) : enc h / 65536 = (h.1 : Int) := by unfold enc; omega
theorem enc_nonneg (h : Nat × Nat) : 0 ≤ enc h := by unfold enc; omega
theorem enc_lt {h : Nat × Nat} {M : Nat} (hk : h.2 < 65536) (hm : h.1 ≤ M) : enc h < ((M : Int) + 1) * 65536 := by unfold enc; omega
theorem enc_inj {h h' : Nat × Nat} (hk : h.2 < 65536) (hk' : h'.2 < 65536) (e : enc h = enc h') : h = h' := by
  obtain ⟨a, b⟩ := h
  obtain ⟨a', b'⟩ := h'
  unfold enc at e
  simp only at e hk hk'
  have h1 : a = a' := by omega
  have h2 : b = b' := by omega
  rw [h1, h2]

/-- The cells of a lay are those of plain free slots. -/
structure Rep (t S M : Nat) (f : Nat → Int) (hd : Nat × Nat) (nx : Nat → Nat) : Prop where
  h0 : f t = enc hd
  tag : hd.1 ≤ M
  lk : hd.2 ≤ S
  n0 : ∀ s, s < S → f (t + 1 + s * 7) = nx s
  le : ∀ s, s < S → nx s ≤ S

/-- What one is in the midst of is in range. -/
def Wk.fit (S M : Nat) : Wk → Prop
  | .take1 g => g.1 ≤ M ∧ 1 ≤ g.2 ∧ g.2 ≤ S
  | .take2 g m => g.1 ≤ M ∧ 1 ≤ g.2 ∧ g.2 ≤ S ∧ m ≤ S
  | .give0 s => s < S
  | .give1 s g => s < S ∧ g.1 ≤ M ∧ g.2 ≤ S
  | .give2 s g => s < S ∧ g.1 ≤ M ∧ g.2 ≤ S
  | _ => True
theorem Wk.fit.more {S M M' : Nat} {k : Wk} (h : k.fit S M) (hM : M ≤ M') : k.fit S M' := by
  cases k <;> simp only [Wk.fit] at h ⊢ <;> omega

/-- A take in memory, in the midst of something (idle: it is done), with a head that it loaded. -/
def PgT (w : World) (q : Nat) (V : Int) (S : Nat) (T : Int) (g : Nat × Nat) : Wk → Prop
  | .take0 => ∃ h x, Pg w q 77 V S T 0 h (.int .u64 x)
  | .take1 g => ∃ x, Pg w q 77 V S T 1 (enc g) (.int .u64 x)
  | .take2 g m => Pg w q 77 V S T 2 (enc g) (.int .u64 (m : Nat))
  | .idle => ∃ x, Pg w q 77 V S T 3 (enc g) (.int .u64 x)
  | _ => False
/-- A give in memory. -/
def PgG (w : World) (q : Nat) (V : Int) (S : Nat) (T : Int) (s0 : Nat) : Wk → Prop
  | .give0 s => ∃ h, Pg w q 71 V S T 0 h (.int .i64 (s : Nat))
  | .give1 s g => Pg w q 71 V S T 1 (enc g) (.int .i64 (s : Nat))
  | .give2 s g => Pg w q 71 V S T 2 (enc g) (.int .i64 (s : Nat))
  | .idle => ∃ h, Pg w q 71 V S T 3 h (.int .i64 (s0 : Nat))
  | _ => False

/-- A take's step: what it is in the midst of then, the head that it goes by, the memory's head, and which count goes up. -/
def tkN (hd : Nat × Nat) (nx : Nat → Nat) : Wk → Wk × (Nat × Nat) × (Nat × Nat) × Nat
  | .take0 => if hd.2 = 0 then (.idle, hd, hd, 0) else (.take1 hd, hd, hd, 0)
  | .take1 g => (.take2 g (nx (g.2 - 1)), g, hd, 0)
  | .take2 g m => if hd = g then (.idle, g, (g.1 + 1, m), 2) else (.take0, g, hd, 3)
  | k => (k, hd, hd, 0)
/-- A give's step. -/
def gvN (hd : Nat × Nat) (nx : Nat → Nat) : Wk → Wk × (Nat → Nat) × (Nat × Nat) × Nat
  | .give0 s => (.give1 s hd, nx, hd, 0)
  | .give1 s g => (.give2 s g, put nx s g.2, hd, 1)
  | .give2 s g => if hd = g then (.idle, nx, (g.1 + 1, s + 1), 2) else (.give0 s, nx, hd, 3)
  | k => (k, nx, hd, 0)

def Wk.isIdle : Wk → Bool
  | .idle => true
  | _ => false
def Wk.isTake : Wk → Bool
  | .take0 | .take1 _ | .take2 _ _ => true
  | _ => false
def Wk.isGive : Wk → Bool
  | .give0 _ | .give1 _ _ | .give2 _ _ => true
  | _ => false

section
variable {w : World} {q p g n cap t m S M : Nat} {V T : Int} {c f : Nat → Int} {hd : Nat × Nat} {nx : Nat → Nat} {k : Wk}

theorem Rep.fit (R : Rep t S M f hd nx) (hf : k.fit S M) (hk : k.isTake = true) : (tkN hd nx k).1.fit S M := by
  cases k <;> simp only [Wk.isTake, Bool.false_eq_true] at hk
  · simp only [tkN]
    split
    · trivial
    · exact ⟨R.tag, by omega, R.lk⟩
  · rename_i h
    exact ⟨hf.1, hf.2.1, hf.2.2, R.le _ (by have := hf.2; omega)⟩
  · simp only [tkN]
    split <;> trivial

theorem Rep.fitG (R : Rep t S M f hd nx) (hf : k.fit S M) (hk : k.isGive = true) : (gvN hd nx k).1.fit S M := by
  cases k <;> simp only [Wk.isGive, Bool.false_eq_true] at hk
  · exact ⟨hf, R.tag, R.lk⟩
  · exact hf
  · rename_i s h
    simp only [gvN]
    split
    · trivial
    · exact hf.1

theorem Rep.head (R : Rep t S M f hd nx) {hd' : Nat × Nat} {v : Int} (hv : v = enc hd') (h1 : hd'.1 ≤ M + 1) (h2 : hd'.2 ≤ S) : Rep t S (M + 1) (upd f t v) hd' nx :=
  ⟨(upd_same _ _ _).trans hv, h1, h2, fun s hs => (upd_other _ _ (by omega)).trans (R.n0 s hs), R.le⟩
theorem Rep.more (R : Rep t S M f hd nx) {M' : Nat} (h : M ≤ M') : Rep t S M' f hd nx := ⟨R.h0, Nat.le_trans R.tag h, R.lk, R.n0, R.le⟩
theorem Rep.next (R : Rep t S M f hd nx) {s v : Nat} (hs : s < S) (hv : v ≤ S) : Rep t S M (upd f (t + 1 + s * 7) (v : Int)) hd (put nx s v) := by
  refine ⟨(upd_other _ _ (by omega)).trans R.h0, R.tag, R.lk, fun i hi => ?_, fun i hi => ?_⟩
  · by_cases e : i = s
    · subst e; rw [upd_same, put_same]
    · rw [upd_other _ _ (by omega), put_other _ _ e]; exact R.n0 i hi
  · by_cases e : i = s
    · subst e; rw [put_same]; exact hv
    · rw [put_other _ _ e]; exact R.le i hi

/-- What a step leaves. -/
def StepT (q p g n cap t S M : Nat) (V T : Int) (c : Nat → Int) (nx : Nat → Nat) (r : Wk × (Nat × Nat) × (Nat × Nat) × Nat) (w : World) (e : Ending) (w' : World) : Prop :=
  ∃ f', e = .returned (.bool r.1.isIdle) ∧ Ar w' p g n cap (upd c r.2.2.2 (c r.2.2.2 + 1)) f' ∧ Rep t S (M + 1) f' r.2.2.1 nx ∧ PgT w' q V S T r.2.1 r.1 ∧ OnlyT q p g none w w'
def StepG (q p g n cap t S M s : Nat) (V T : Int) (c : Nat → Int) (r : Wk × (Nat → Nat) × (Nat × Nat) × Nat) (w : World) (e : Ending) (w' : World) : Prop :=
  ∃ f', e = .returned (.bool r.1.isIdle) ∧ Ar w' p g n cap (upd c r.2.2.2 (c r.2.2.2 + 1)) f' ∧ Rep t S (M + 1) f' r.2.2.1 r.2.1 ∧ PgG w' q V S T s r.1 ∧ OnlyT q p g none w w'

theorem takeStep_any {g0 : Nat × Nat} (hR : Rt V S T) (ht : T = (t : Int)) (A : Ar w p g n cap c f) (R : Rep t S M f hd nx) (hk : k.isTake = true) (P : PgT w q V S T g0 k) (hf : k.fit S M) (hn : t < n) (hn2 : ∀ s, s < S → t + 1 + s * 7 < n) (hM : M ≤ 100000) (hm : CB c m) (hb : m ≤ 100000) :
    Calls Try.prog 16 #[.pointer (some ⟨q, 0, none⟩), .pointer (some ⟨p, 0, none⟩)] w (StepT q p g n cap t S M V T c nx (tkN hd nx k) w) := by
  have s2 := hR.s2
  have _hS : S ≤ 48 := by omega
  have hl := R.lk
  have h0 : 0 ≤ f t := by rw [R.h0]; exact enc_nonneg _
  have h1 : f t < 18446744073709551616 := by rw [R.h0]; have := enc_lt (h := hd) (by omega) R.tag; omega
  have hmod : f t % 65536 = (hd.2 : Int) := by rw [R.h0]; exact enc_mod (by omega)
  cases k <;> simp only [Wk.isTake, Bool.false_eq_true] at hk
  · obtain ⟨h, x, P⟩ := P
    by_cases e : hd.2 = 0
    · have et : tkN hd nx .take0 = (.idle, hd, hd, 0) := by simp [tkN, e]
      rw [et]
      refine (take_0none hR ht A P hn hmod h0 h1 (decide_eq_false (by omega)) hm (by omega)).mono ?_
      rintro e w' ⟨rfl, A', P', O'⟩
      rw [R.h0] at P'
      exact ⟨f, rfl, A', R.more (by omega), ⟨_, P'⟩, O'⟩
    · have et : tkN hd nx .take0 = (.take1 hd, hd, hd, 0) := by simp [tkN, e]
      rw [et]
      refine (take_0 hR ht A P hn hmod h0 h1 (decide_eq_true (by omega)) hm (by omega)).mono ?_
      rintro e w' ⟨rfl, A', P', O'⟩
      rw [R.h0] at P'
      exact ⟨f, rfl, A', R.more (by omega), ⟨_, P'⟩, O'⟩
  · rename_i h
    obtain ⟨x, P⟩ := P
    obtain ⟨f1, f2, f3⟩ := hf
    refine (take_1 hR ht A P (k := h.2) (enc_mod (by omega)) (enc_nonneg _) (by have := enc_lt (h := h) (by omega) f1; omega) f2 f3 (hn2 _ (by omega)) hm (by omega)).mono ?_
    rintro e w' ⟨rfl, A', P', O'⟩
    rw [R.n0 _ (by omega)] at P'
    exact ⟨f, rfl, A', R.more (by omega), P', O'⟩
  · rename_i h i
    obtain ⟨f1, f2, f3, f4⟩ := hf
    have e0 := enc_nonneg h
    have e1 := enc_lt (h := h) (by omega) f1
    by_cases e : hd = h
    · subst e
      have et : tkN hd nx (.take2 hd i) = (.idle, hd, (hd.1 + 1, i), 2) := by simp [tkN]
      rw [et]
      refine (take_2hit hR ht A P hn (by rw [R.h0]; simp) (by omega) (by omega) e0 (by omega) hm (by omega)).mono ?_
      rintro e w' ⟨rfl, A', P', O'⟩
      refine ⟨_, rfl, A', R.head ?_ (by simp; omega) (by simpa using f4), ⟨_, P'⟩, O'⟩
      rw [enc_div (by omega)]
      unfold enc
      simp
    · have et : tkN hd nx (.take2 h i) = (.take0, h, hd, 3) := by simp [tkN, e]
      rw [et]
      refine (take_2miss hR ht A P hn (beq_eq_false_iff_ne.2 fun e' => e (enc_inj (by omega) (by omega) (R.h0.symm.trans e'))) (by omega) (by omega) e0 (by omega) hm (by omega)).mono ?_
      rintro e w' ⟨rfl, A', P', O'⟩
      exact ⟨_, rfl, A', R.more (by omega), ⟨_, _, P'⟩, O'⟩

theorem giveStep_any {s : Nat} (hR : Rt V S T) (ht : T = (t : Int)) (A : Ar w p g n cap c f) (R : Rep t S M f hd nx) (hk : k.isGive = true) (P : PgG w q V S T s k) (hs : k.giving = [s]) (hf : k.fit S M) (hn : t < n) (hn2 : ∀ s, s < S → t + 1 + s * 7 < n) (hM : M ≤ 100000) (hm : CB c m) (hb : m ≤ 100000) :
    Calls Try.prog 13 #[.pointer (some ⟨q, 0, none⟩), .pointer (some ⟨p, 0, none⟩)] w (StepG q p g n cap t S M s V T c (gvN hd nx k) w) := by
  have s2 := hR.s2
  have _hS : S ≤ 48 := by omega
  have hl := R.lk
  cases k <;> simp only [Wk.isGive, Bool.false_eq_true] at hk
  · rename_i s'
    have : s' = s := by simpa [Wk.giving] using hs
    subst this
    obtain ⟨h, P⟩ := P
    refine (give_0 hR ht A P hn hm (by omega)).mono ?_
    rintro e w' ⟨rfl, A', P', O'⟩
    rw [R.h0] at P'
    exact ⟨f, rfl, A', R.more (by omega), P', O'⟩
  · rename_i s' h
    have : s' = s := by simpa [Wk.giving] using hs
    subst this
    obtain ⟨f0, f1, f2⟩ := hf
    refine (give_1 hR ht A P (k := h.2) (enc_mod (by omega)) (enc_nonneg _) (by have := enc_lt (h := h) (by omega) f1; omega) f0 rfl (hn2 _ f0) hm (by omega)).mono ?_
    rintro e w' ⟨rfl, A', P', O'⟩
    exact ⟨_, rfl, A', (R.next f0 f2).more (by omega), P', O'⟩
  · rename_i s' h
    have : s' = s := by simpa [Wk.giving] using hs
    subst this
    obtain ⟨f0, f1, f2⟩ := hf
    have e0 := enc_nonneg h
    have e1 := enc_lt (h := h) (by omega) f1
    by_cases e : hd = h
    · subst e
      have et : gvN hd nx (.give2 s' hd) = (.idle, nx, (hd.1 + 1, s' + 1), 2) := by simp [gvN]
      rw [et]
      refine (give_2hit hR ht A P hn (by rw [R.h0]; simp) f0 e0 (by omega) hm (by omega)).mono ?_
      rintro e w' ⟨rfl, A', P', O'⟩
      refine ⟨_, rfl, A', R.head ?_ (by simp; omega) (by simp; omega), ⟨_, P'⟩, O'⟩
      rw [enc_div (by omega)]
      unfold enc
      simp
    · have et : gvN hd nx (.give2 s' h) = (.give0 s', nx, hd, 3) := by simp [gvN, e]
      rw [et]
      refine (give_2miss hR ht A P hn (beq_eq_false_iff_ne.2 fun e' => e (enc_inj (by omega) (by omega) (R.h0.symm.trans e'))) f0 e0 (by omega) hm (by omega)).mono ?_
      rintro e w' ⟨rfl, A', P', O'⟩
      exact ⟨_, rfl, A', R.more (by omega), ⟨_, P'⟩, O'⟩

/-- What was taken. -/
theorem slotT_any {g0 : Nat × Nat} (hR : Rt V S T) (P : PgT w q V S T g0 .idle) (h1 : g0.1 ≤ 100000) (h2 : g0.2 ≤ S) :
    Calls Try.prog 17 #[.pointer (some ⟨q, 0, none⟩)] w fun e w' => e = .returned (.tuple #[.int .i64 ((g0.2 - 1 : Nat) : Int), .bool (decide (g0.2 ≠ 0))]) ∧ Below w.heap.size w w' := by
  have s2 := hR.s2
  obtain ⟨x, P⟩ := P
  refine (slot_pg hR (enc_mod (by omega)) (enc_nonneg _) (by have := enc_lt (h := g0) (by omega) h1; omega) P).mono ?_
  rintro e w' ⟨rfl, hb⟩
  refine ⟨?_, hb⟩
  have e1 : lkF S (g0.2 : Int) = ((g0.2 - 1 : Nat) : Int) := by unfold lkF; split <;> omega
  have e2 : lkB S (g0.2 : Int) = decide (g0.2 ≠ 0) := by
    unfold lkB
    rw [decide_eq_decide]
    omega
  rw [e1, e2]
end
end Go.Proofs.Ytgjlilcljefbfaa
