/- Words for takes, gives and free slots together in memory. -/
import Derived.Test.YtgjlilcljefbfaaSlotK
namespace Go.Proofs.Ytgjlilcljefbfaa
open Go.RowKit

set_option maxRecDepth 100000

section
variable {w w' w0 : World} {q q' p g n cap t m S M b : Nat} {V T a h : Int} {x : Value} {ty : TypeId} {c f : Nat → Int} {hd g0 : Nat × Nat} {nx : Nat → Nat} {k : Wk}

theorem Pg.onlyT (P : Pg w q ty V S T a h x) (A : Ar w p g n cap c f) (O : OnlyT q' p g none w w') (hne : q ≠ q') : Pg w' q ty V S T a h x :=
  ⟨P.1, P.2.onlyT O hne (P.ne_p A) (P.ne_g A) (by simp)⟩
theorem PgT.map (P : PgT w q V S T g0 k) (hm : ∀ {ty a h x}, Pg w q ty V S T a h x → Pg w' q ty V S T a h x) : PgT w' q V S T g0 k := by
  cases k with
  | take0 => obtain ⟨h, x, P⟩ := P; exact ⟨h, x, hm P⟩
  | take1 g => obtain ⟨x, P⟩ := P; exact ⟨x, hm P⟩
  | take2 g m => exact hm P
  | idle => obtain ⟨x, P⟩ := P; exact ⟨x, hm P⟩
  | _ => exact P.elim
theorem PgG.map {s : Nat} (P : PgG w q V S T s k) (hm : ∀ {ty a h x}, Pg w q ty V S T a h x → Pg w' q ty V S T a h x) : PgG w' q V S T s k := by
  cases k with
  | give0 s => obtain ⟨h, P⟩ := P; exact ⟨h, hm P⟩
  | give1 s g => exact hm P
  | give2 s g => exact hm P
  | idle => obtain ⟨x, P⟩ := P; exact ⟨x, hm P⟩
  | _ => exact P.elim
theorem PgT.some (P : PgT w q V S T g0 k) : ∃ a h x, Pg w q 77 V S T a h x := by
  cases k with
  | take0 => obtain ⟨h, x, P⟩ := P; exact ⟨_, _, _, P⟩
  | take1 g => obtain ⟨x, P⟩ := P; exact ⟨_, _, _, P⟩
  | take2 g m => exact ⟨_, _, _, P⟩
  | idle => obtain ⟨x, P⟩ := P; exact ⟨_, _, _, P⟩
  | _ => exact P.elim
theorem PgG.some {s : Nat} (P : PgG w q V S T s k) : ∃ a h x, Pg w q 71 V S T a h x := by
  cases k with
  | give0 s => obtain ⟨h, P⟩ := P; exact ⟨_, _, _, P⟩
  | give1 s g => exact ⟨_, _, _, P⟩
  | give2 s g => exact ⟨_, _, _, P⟩
  | idle => obtain ⟨x, P⟩ := P; exact ⟨_, _, _, P⟩
  | _ => exact P.elim
theorem PgT.below (P : PgT w q V S T g0 k) (hb : Below w.heap.size w w') : PgT w' q V S T g0 k := P.map fun P => P.below hb (Nat.le_refl _)
theorem PgG.below {s : Nat} (P : PgG w q V S T s k) (hb : Below w.heap.size w w') : PgG w' q V S T s k := P.map fun P => P.below hb (Nat.le_refl _)
theorem PgT.onlyT (P : PgT w q V S T g0 k) (A : Ar w p g n cap c f) (O : OnlyT q' p g none w w') (hne : q ≠ q') : PgT w' q V S T g0 k := P.map fun P => P.onlyT A O hne
theorem PgG.onlyT {s : Nat} (P : PgG w q V S T s k) (A : Ar w p g n cap c f) (O : OnlyT q' p g none w w') (hne : q ≠ q') : PgG w' q V S T s k := P.map fun P => P.onlyT A O hne
theorem LyB.onlyT (L : LyB w b V S T) (A : Ar w p g n cap c f) (P : Pg w q ty V S T a h x) (O : OnlyT q p g none w w') : LyB w' b V S T :=
  Blk.onlyT L O (Blk.ne_ L P.2 (by rcases P.1 with e | e <;> rw [e] <;> decide)) (L.ne_p A) (L.ne_g A) (by simp)
theorem LI.onlyT {v : Value} {l : List Nat} {h' : Int} (h : LI w v l) (A : Ar w p g n cap c f) (P : Pg w q ty V S T a h' x) (O : OnlyT q p g none w w') : LI w' v l := by
  obtain ⟨zs, hz, _⟩ := A.cells
  have h1 := h.ne_blk P.2 (by rcases P.1 with e | e <;> rw [e] <;> decide)
  have h2 := h.ne_blk A.own (by decide)
  have h3 := h.ne_blk hz (by decide)
  exact h.keep fun b hb => O.block b (h.lt b hb) (by rintro rfl; exact h1 hb) (by rintro rfl; exact h2 hb) (by rintro rfl; exact h3 hb) (by simp)
theorem PgT.ne_G {s : Nat} {k' : Wk} (P : PgT w q V S T g0 k) (P' : PgG w q' V S T s k') : q ≠ q' := by
  obtain ⟨_, _, _, P⟩ := P.some
  obtain ⟨_, _, _, P'⟩ := P'.some
  exact P.2.ne_ P'.2 (by decide)

theorem SA.below (h : SA w p g n cap t S M m c f hd nx) (hb : Below w.heap.size w w') : SA w' p g n cap t S M m c f hd nx := ⟨h.1.below hb (Nat.le_refl _), h.2.1, h.2.2⟩
theorem SA.drew (h : SA w p g n cap t S M m c f hd nx) : SA w.drew p g n cap t S M m c f hd nx := ⟨h.1.drew, h.2.1, h.2.2⟩
theorem SA.alloc (h : SA w p g n cap t S M m c f hd nx) (o : Obj) : SA (w.alloc o) p g n cap t S M m c f hd nx := ⟨h.1.alloc o, h.2.1, h.2.2⟩

/-- A take's step, all at once. -/
def GoT (q p g n cap t S M m : Nat) (V T : Int) (c : Nat → Int) (nx : Nat → Nat) (k' : Wk) (g' hd' : Nat × Nat) (j : Nat) (d : Bool) (w : World) (e : Ending) (w' : World) : Prop :=
  ∃ f', e = .returned (.bool d) ∧ SA w' p g n cap t S (M + 1) (m + 1) (upd c j (c j + 1)) f' hd' nx ∧ PgT w' q V S T g' k' ∧ OnlyT q p g none w w'
def GoG (q p g n cap t S M m s : Nat) (V T : Int) (c : Nat → Int) (k' : Wk) (nx' : Nat → Nat) (hd' : Nat × Nat) (j : Nat) (d : Bool) (w : World) (e : Ending) (w' : World) : Prop :=
  ∃ f', e = .returned (.bool d) ∧ SA w' p g n cap t S (M + 1) (m + 1) (upd c j (c j + 1)) f' hd' nx' ∧ PgG w' q V S T s k' ∧ OnlyT q p g none w w'

theorem goT (hR : Rt V S T) (ht : T = (t : Int)) (hn : t < n) (hn2 : ∀ s, s < S → t + 1 + s * 7 < n) (A : SA w p g n cap t S M m c f hd nx) (P : PgT w q V S T g0 k) (hk : k.isTake = true) (hf : k.fit S M) (hM : M ≤ 100000) (hb : m ≤ 100000)
    {k' : Wk} {g' hd' : Nat × Nat} {j : Nat} {d : Bool} (hr : tkN hd nx k = (k', g', hd', j)) (hd : k'.isIdle = d) :
    Calls Try.prog 16 #[.pointer (some ⟨q, 0, none⟩), .pointer (some ⟨p, 0, none⟩)] w (GoT q p g n cap t S M m V T c nx k' g' hd' j d w) := by
  subst hd
  refine (takeStep_any hR ht A.1 A.2.1 hk P hf hn hn2 hM A.2.2 hb).mono ?_
  rw [hr]
  rintro e w' ⟨f', rfl, A', R', P', O'⟩
  exact ⟨f', rfl, ⟨A', R', A.2.2.upd _⟩, P', O'⟩
theorem goG {s : Nat} (hR : Rt V S T) (ht : T = (t : Int)) (hn : t < n) (hn2 : ∀ s, s < S → t + 1 + s * 7 < n) (A : SA w p g n cap t S M m c f hd nx) (P : PgG w q V S T s k) (hk : k.isGive = true) (hs : k.giving = [s]) (hf : k.fit S M) (hM : M ≤ 100000) (hb : m ≤ 100000)
    {k' : Wk} {nx' : Nat → Nat} {hd' : Nat × Nat} {j : Nat} {d : Bool} (hr : gvN hd nx k = (k', nx', hd', j)) (hd : k'.isIdle = d) :
    Calls Try.prog 13 #[.pointer (some ⟨q, 0, none⟩), .pointer (some ⟨p, 0, none⟩)] w (GoG q p g n cap t S M m s V T c k' nx' hd' j d w) := by
  subst hd
  refine (giveStep_any hR ht A.1 A.2.1 hk P hs hf hn hn2 hM A.2.2 hb).mono ?_
  rw [hr]
  rintro e w' ⟨f', rfl, A', R', P', O'⟩
  exact ⟨f', rfl, ⟨A', R', A.2.2.upd _⟩, P', O'⟩

/-- The list of all free slots. -/
def GoL (p g n cap t S M m : Nat) (c f : Nat → Int) (hd : Nat × Nat) (nx : Nat → Nat) (L : List Nat) (w : World) (e : Ending) (w' : World) : Prop :=
  ∃ v c', e = .returned v ∧ LI w' v L ∧ (∀ i, bk v = some i → w.heap.size ≤ i) ∧ SA w' p g n cap t S M (m + 1 + L.length) c' f hd nx ∧ c' 2 = c 2 ∧ c' 3 = c 3 ∧ Only p g w w'
theorem goL {L : List Nat} (hR : Rt V S T) (ht : T = (t : Int)) (hn : t < n) (hn2 : ∀ s, s < S → t + 1 + s * 7 < n) (A : SA w p g n cap t S M m c f hd nx) (hch : Chain nx hd.2 L) (hL : ∀ s ∈ L, s < S) (hlen : L.length ≤ S) (hb : m ≤ 100000) :
    Calls Try.prog 10 #[.iface 31 (pmV p), vL V S T] w (GoL p g n cap t S M m c f hd nx L w) := by
  have s2 := hR.s2
  have hl := A.2.1.lk
  refine (list_any (k0 := hd.2) hR ht A.1 hn hn2 A.2.2 hb (by rw [A.2.1.h0]; exact enc_mod (by omega)) A.2.1.n0 hch hL hlen).mono ?_
  rintro e w' ⟨v, c', rfl, hli, hbk, A', m', h2, h3, O'⟩
  exact ⟨v, c', rfl, hli, hbk, ⟨A', A.2.1, m'⟩, h2, h3, O'⟩

theorem goN (V T : Int) (S : Nat) (w : World) :
    Calls Try.prog 15 #[vL V S T] w fun e w' => ∃ q, e = .returned (.pointer (some ⟨q, 0, none⟩)) ∧ w.heap.size ≤ q ∧ PgT w' q V S T (0, 0) .take0 ∧ Below w.heap.size w w' := by
  refine (newTake_any V T S w).mono ?_
  rintro e w' ⟨q, rfl, h1, P, hb⟩
  exact ⟨q, rfl, h1, ⟨_, _, P⟩, hb⟩
theorem goN2 {s : Nat} (hR : Rt V S T) (hs : s < S) (w : World) :
    Calls Try.prog 12 #[vL V S T, .int .i64 (s : Int)] w fun e w' => ∃ q, e = .returned (.pointer (some ⟨q, 0, none⟩)) ∧ w.heap.size ≤ q ∧ PgG w' q V S T s (.give0 s) ∧ Below w.heap.size w w' := by
  refine (newGive_yes hR hs w).mono ?_
  rintro e w' ⟨q, rfl, h1, P, hb⟩
  exact ⟨q, rfl, h1, ⟨_, P⟩, hb⟩
/-- Whether it is done. -/
theorem goD (P : PgT w q V S T g0 k) : Calls Try.prog 22 #[.pointer (some ⟨q, 0, none⟩)] w fun e w' => e = .returned (.bool k.isIdle) ∧ w = w' := by
  cases k with
  | take0 => obtain ⟨h, x, P⟩ := P; exact take_done P
  | take1 g => obtain ⟨x, P⟩ := P; exact take_done P
  | take2 g m => exact take_done P
  | idle => obtain ⟨x, P⟩ := P; exact take_done P
  | _ => exact P.elim
theorem goD2 {s : Nat} (P : PgG w q V S T s k) : Calls Try.prog 23 #[.pointer (some ⟨q, 0, none⟩)] w fun e w' => e = .returned (.bool k.isIdle) ∧ w = w' := by
  cases k with
  | give0 s => obtain ⟨h, P⟩ := P; exact give_done P
  | give1 s g => exact give_done P
  | give2 s g => exact give_done P
  | idle => obtain ⟨x, P⟩ := P; exact give_done P
  | _ => exact P.elim
end
end Go.Proofs.Ytgjlilcljefbfaa
