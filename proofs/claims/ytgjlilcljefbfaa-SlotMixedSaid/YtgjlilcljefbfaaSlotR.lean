/- Workers in memory: a block, a program that goes on, a list of slots; and what a step may turn. -/
import Derived.Test.YtgjlilcljefbfaaSlotQ
namespace Go.Proofs.Ytgjlilcljefbfaa
open Go.RowKit

set_option maxRecDepth 100000

/-- Of what was there, only these blocks may have turned. -/
structure OnlyF (F : Nat → Prop) (w w' : World) : Prop where
  os : w'.os = w.os
  tape : w'.tape = w.tape
  output : w'.output = w.output
  size : w.heap.size ≤ w'.heap.size
  block : ∀ i, i < w.heap.size → ¬ F i → w'.heap[i]? = w.heap[i]?

section
variable {F G : Nat → Prop} {w0 w w' : World} {p g q : Nat}
theorem OnlyF.refl (w : World) : OnlyF F w w := ⟨rfl, rfl, rfl, Nat.le_refl _, fun _ _ _ => rfl⟩
/-- One more step, of blocks that may turn, or that are new. -/
theorem OnlyF.then_ (h : OnlyF F w0 w) (k : OnlyF G w w') (hG : ∀ i, G i → F i ∨ w0.heap.size ≤ i) : OnlyF F w0 w' :=
  ⟨k.os.trans h.os, k.tape.trans h.tape, k.output.trans h.output, Nat.le_trans h.size k.size, fun i hi hn => (k.block i (Nat.lt_of_lt_of_le hi h.size) (fun hg => by rcases hG i hg with e | e; exact hn e; omega)).trans (h.block i hi hn)⟩
theorem OnlyF.trans (h : OnlyF F w0 w) (k : OnlyF F w w') : OnlyF F w0 w' := h.then_ k fun _ h => .inl h
theorem OnlyF.below (h : OnlyF F w0 w) (hb : Below w.heap.size w w') : OnlyF F w0 w' :=
  h.then_ (G := fun _ => False) ⟨hb.os, hb.tape, hb.output, hb.size, fun i hi _ => hb.block i hi⟩ (fun _ h => h.elim)
theorem OnlyF.drew (h : OnlyF F w0 w) : OnlyF F w0 w.drew := ⟨h.os, h.tape, h.output, h.size, h.block⟩
theorem OnlyF.alloc (h : OnlyF F w0 w) (o : Obj) : OnlyF F w0 (w.alloc o) := h.below ((Below.refl _ _).alloc (Nat.le_refl _) o)
theorem OnlyF.only (h : OnlyF F w0 w) (k : Only p g w w') (hp : F p) (hg : F g) : OnlyF F w0 w' :=
  h.then_ (G := fun i => i = p ∨ i = g) ⟨k.os, k.tape, k.output, k.size, fun i hi hn => k.block i hi (fun e => hn (.inl e)) (fun e => hn (.inr e))⟩ (fun i hi => .inl (by rcases hi with rfl | rfl <;> assumption))
theorem OnlyF.onlyT (h : OnlyF F w0 w) (k : OnlyT q p g none w w') (hq : F q ∨ w0.heap.size ≤ q) (hp : F p) (hg : F g) : OnlyF F w0 w' :=
  h.then_ (G := fun i => i = q ∨ i = p ∨ i = g) ⟨k.os, k.tape, k.output, k.size, fun i hi hn => k.block i hi (fun e => hn (.inl e)) (fun e => hn (.inr (.inl e))) (fun e => hn (.inr (.inr e))) (by simp)⟩
    (fun i hi => by rcases hi with rfl | rfl | rfl; exact hq; exact .inl hp; exact .inl hg)
theorem OnlyF.set_ (h : OnlyF F w0 w) {b j : Nat} (u : Value) (hb : F b ∨ w0.heap.size ≤ b) : OnlyF F w0 (w.setCell ⟨b, j, none⟩ u) :=
  h.then_ (G := fun i => i = b) ⟨rfl, rfl, rfl, by simp [World.setCell], fun i _ hn => Below.heap_setCell w ⟨b, j, none⟩ u i hn⟩ (fun i hi => by rw [hi]; exact hb)
theorem OnlyF.grown {r : Option Nat} (h : OnlyF F w0 w) (hg : w.grownBy w' r) (hr : ∀ i, r = some i → F i ∨ w0.heap.size ≤ i) : OnlyF F w0 w' :=
  h.then_ (G := fun i => r = some i) ⟨hg.os, hg.tape, hg.output, hg.size, fun i hi hn => hg.block i hi (fun e => hn e.symm)⟩ hr
theorem Blk.onlyF {i : Nat} {ty : TypeId} {cs : Array Value} (h : Blk w i ty cs) (ho : OnlyF F w w') (hn : ¬ F i) : Blk w' i ty cs := (ho.block i h.lt hn).trans h
theorem OnlyF.toBelow {B : Nat} (hb : Below B w0 w) (h : OnlyF F w w') (hB : B ≤ w.heap.size) (hF : ∀ i, F i → B ≤ i) : Below B w0 w' :=
  ⟨h.os.trans hb.os, h.tape.trans hb.tape, h.output.trans hb.output, Nat.le_trans hb.size h.size, fun i hi => (h.block i (by omega) (fun hf => by have := hF i hf; omega)).trans (hb.block i hi)⟩
end

/-- A worker's pointers. -/
def tvK (k : Wk) (q : Nat) : Value := if k.isTake then .pointer (some ⟨q, 0, none⟩) else .pointer none
def gvK (k : Wk) (q : Nat) : Value := if k.isGive then .pointer (some ⟨q, 0, none⟩) else .pointer none
/-- The program that it is in the midst of. -/
def PgK (w : World) (q S : Nat) (k : Wk) : Prop :=
  (k.isTake = true → ∃ g0, PgT w q 1 S 1 g0 k) ∧ (k.isGive = true → ∃ s, k.giving = [s] ∧ PgG w q 1 S 1 s k)
/-- A worker in memory. -/
structure WkM (w : World) (b q S : Nat) (hv : Value) (k : Wk) (hs : List Nat) : Prop where
  own : Blk w b 50 #[tvK k q, gvK k q, hv]
  has : LI w hv hs
  pg : PgK w q S k
/-- The blocks of a worker. -/
def Foot (b q : Nat) (hv : Value) (k : Wk) (i : Nat) : Prop := i = b ∨ (k ≠ .idle ∧ i = q) ∨ bk hv = some i

section
variable {w w' : World} {b q S i : Nat} {hv : Value} {k : Wk} {hs : List Nat}
theorem PgK.some (h : PgK w q S k) (hk : k ≠ .idle) : ∃ ty a hh x, Pg w q ty 1 S 1 a hh x := by
  cases k with
  | idle => exact absurd rfl hk
  | take0 => obtain ⟨g0, P⟩ := h.1 rfl; obtain ⟨a, b, c, d⟩ := P.some; exact ⟨_, _, _, _, d⟩
  | take1 g => obtain ⟨g0, P⟩ := h.1 rfl; obtain ⟨a, b, c, d⟩ := P.some; exact ⟨_, _, _, _, d⟩
  | take2 g m => obtain ⟨g0, P⟩ := h.1 rfl; obtain ⟨a, b, c, d⟩ := P.some; exact ⟨_, _, _, _, d⟩
  | give0 s => obtain ⟨g0, _, P⟩ := h.2 rfl; obtain ⟨a, b, c, d⟩ := P.some; exact ⟨_, _, _, _, d⟩
  | give1 s g => obtain ⟨g0, _, P⟩ := h.2 rfl; obtain ⟨a, b, c, d⟩ := P.some; exact ⟨_, _, _, _, d⟩
  | give2 s g => obtain ⟨g0, _, P⟩ := h.2 rfl; obtain ⟨a, b, c, d⟩ := P.some; exact ⟨_, _, _, _, d⟩
theorem WkM.foot_lt (h : WkM w b q S hv k hs) (hf : Foot b q hv k i) : i < w.heap.size := by
  rcases hf with rfl | ⟨hk, rfl⟩ | e
  · exact h.own.lt
  · obtain ⟨_, _, _, _, P⟩ := h.pg.some hk
    exact P.lt
  · exact h.has.lt i e
theorem WkM.foot_ne (h : WkM w b q S hv k hs) {ty : TypeId} {cs : Array Value} (hi : Blk w i ty cs) (h1 : 50 ≠ ty) (h2 : 77 ≠ ty) (h3 : 71 ≠ ty) (h4 : 3 ≠ ty) : ¬ Foot b q hv k i := by
  rintro (rfl | ⟨hk, rfl⟩ | e)
  · exact h.own.ne_ hi h1 rfl
  · obtain ⟨_, _, _, _, P⟩ := h.pg.some hk
    rcases P.1 with e | e
    · exact P.2.ne_ hi (by rw [e]; exact h2) rfl
    · exact P.2.ne_ hi (by rw [e]; exact h3) rfl
  · exact h.has.ne_blk hi h4 e
theorem WkM.ne_ar (h : WkM w b q S hv k hs) {p g n cap : Nat} {c f : Nat → Int} (A : Ar w p g n cap c f) : ¬ Foot b q hv k p ∧ ¬ Foot b q hv k g := by
  obtain ⟨zs, hz, _⟩ := A.cells
  exact ⟨h.foot_ne A.own (by decide) (by decide) (by decide) (by decide), h.foot_ne hz (by decide) (by decide) (by decide) (by decide)⟩
/-- A worker whose blocks stay. -/
theorem WkM.keep (h : WkM w b q S hv k hs) (hb : ∀ i, Foot b q hv k i → w'.heap[i]? = w.heap[i]?) : WkM w' b q S hv k hs := by
  refine ⟨(hb b (.inl rfl)).trans h.own, h.has.keep fun i hi => hb i (.inr (.inr hi)), ⟨fun hk => ?_, fun hk => ?_⟩⟩
  · obtain ⟨g0, P⟩ := h.pg.1 hk
    have hq := hb q (.inr (.inl ⟨(by rintro rfl; cases hk), rfl⟩))
    exact ⟨g0, P.map fun P => ⟨P.1, hq.trans P.2⟩⟩
  · obtain ⟨s, hs', P⟩ := h.pg.2 hk
    have hq := hb q (.inr (.inl ⟨(by rintro rfl; cases hk), rfl⟩))
    exact ⟨s, hs', P.map fun P => ⟨P.1, hq.trans P.2⟩⟩
theorem WkM.onlyF {F : Nat → Prop} (h : WkM w b q S hv k hs) (ho : OnlyF F w w') (hn : ∀ i, Foot b q hv k i → ¬ F i) : WkM w' b q S hv k hs :=
  h.keep fun i hi => ho.block i (h.foot_lt hi) (hn i hi)
theorem WkM.below (h : WkM w b q S hv k hs) (hb : Below w.heap.size w w') : WkM w' b q S hv k hs := h.keep fun i hi => hb.block i (h.foot_lt hi)
end

/-- The play in memory: its lay, its arena, its workers. -/
def PlB (w : World) (pb p S : Nat) (av : Value) : Prop := Blk w pb 47 #[.int .i64 1, .int .i64 S, .int .i64 1, .pointer (some ⟨p, 0, none⟩), av, .int .i64 0]

/-- What a step makes of a worker, and of the slots. -/
structure Out where
  k : Wk
  hs : List Nat
  hd : Nat × Nat
  nx : Nat → Nat
  j : Nat
def stepW (hd : Nat × Nat) (nx : Nat → Nat) (k : Wk) (hs : List Nat) : Out :=
  if k.isTake then ⟨(tkN hd nx k).1, if (tkN hd nx k).1.isIdle && decide ((tkN hd nx k).2.1.2 ≠ 0) then hs ++ [(tkN hd nx k).2.1.2 - 1] else hs, (tkN hd nx k).2.2.1, nx, (tkN hd nx k).2.2.2⟩
  else ⟨(gvN hd nx k).1, hs, (gvN hd nx k).2.2.1, (gvN hd nx k).2.1, (gvN hd nx k).2.2.2⟩

theorem tkN_take {hd : Nat × Nat} {nx : Nat → Nat} {k : Wk} (hk : k.isTake = true) : (tkN hd nx k).1.isIdle = false → (tkN hd nx k).1.isTake = true := by
  cases k <;> simp only [Wk.isTake, Bool.false_eq_true] at hk <;> simp only [tkN] <;> (try split) <;> simp [Wk.isIdle, Wk.isTake]
theorem tkN_j {hd : Nat × Nat} {nx : Nat → Nat} {k : Wk} (hk : k.isTake = true) : (tkN hd nx k).2.2.2 < 4 := by
  cases k <;> simp only [Wk.isTake, Bool.false_eq_true] at hk <;> simp only [tkN] <;> (try split) <;> simp
theorem tkN_g {S M : Nat} {hd : Nat × Nat} {nx : Nat → Nat} {k : Wk} (hk : k.isTake = true) (hf : k.fit S M) (h1 : hd.1 ≤ M) (h2 : hd.2 ≤ S) : (tkN hd nx k).2.1.1 ≤ M ∧ (tkN hd nx k).2.1.2 ≤ S := by
  cases k <;> simp only [Wk.isTake, Bool.false_eq_true] at hk <;> simp only [tkN]
  · split <;> exact ⟨h1, h2⟩
  · exact ⟨hf.1, hf.2.2⟩
  · split <;> exact ⟨hf.1, hf.2.2.1⟩
theorem gvN_give {hd : Nat × Nat} {nx : Nat → Nat} {k : Wk} (hk : k.isGive = true) : (gvN hd nx k).1.isIdle = false → (gvN hd nx k).1.isGive = true ∧ (gvN hd nx k).1.giving = k.giving := by
  cases k <;> simp only [Wk.isGive, Bool.false_eq_true] at hk <;> simp only [gvN] <;> (try split) <;> simp [Wk.isIdle, Wk.isGive, Wk.giving]
theorem gvN_j {hd : Nat × Nat} {nx : Nat → Nat} {k : Wk} (hk : k.isGive = true) : (gvN hd nx k).2.2.2 < 4 := by
  cases k <;> simp only [Wk.isGive, Bool.false_eq_true] at hk <;> simp only [gvN] <;> (try split) <;> simp

theorem isTake_give {k : Wk} (h : k.isTake = true) : k.isGive = false := by cases k <;> simp_all [Wk.isTake, Wk.isGive]
theorem isTake_idle {k : Wk} (h : k.isTake = true) : k.isIdle = false := by cases k <;> simp_all [Wk.isTake, Wk.isIdle]
theorem isGive_take {k : Wk} (h : k.isGive = true) : k.isTake = false := by cases k <;> simp_all [Wk.isTake, Wk.isGive]
theorem isGive_idle {k : Wk} (h : k.isGive = true) : k.isIdle = false := by cases k <;> simp_all [Wk.isIdle, Wk.isGive]
theorem isIdle_eq {k : Wk} (h : k.isIdle = true) : k = .idle := by cases k <;> simp_all [Wk.isIdle]

/-- One count goes up. -/
theorem sum_upd (c : Nat → Int) {j : Nat} (hj : j < 4) : upd c j (c j + 1) 0 + upd c j (c j + 1) 1 + upd c j (c j + 1) 2 + upd c j (c j + 1) 3 = c 0 + c 1 + c 2 + c 3 + 1 := by
  have : j = 0 ∨ j = 1 ∨ j = 2 ∨ j = 3 := by omega
  rcases this with rfl | rfl | rfl | rfl <;> simp [upd] <;> omega
end Go.Proofs.Ytgjlilcljefbfaa
