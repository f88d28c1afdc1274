/- PtrPens: days of pens, plainly; more of its memory. -/
import Derived.Test.YtipjbgkfhkidkaaPtrQ
namespace Go.Proofs.Ytipjbgkfhkidkaa
open Go.RowKit

set_option maxRecDepth 100000

theorem mean_write {x : Sx} {j : Nat} {X : Int} (hs : x.s (j / 2) = false) (i : Nat) : (x.write j X).mean i = x.mean i := by
  unfold Sx.mean Sx.write Sx.O
  simp only
  by_cases e : i = j
  · subst e
    simp only [if_true, hs]
    cases x.wr i <;> simp
  · simp only [if_neg e]
theorem mean_commit {x : Sx} {q i : Nat} : (x.commit q).mean i = if i / 2 = q ∧ x.wr i = true then x.n i else x.mean i := by
  have h : (x.commit q).mean i = (if x.wr i && !(if i / 2 = q then true else x.s (i / 2)) then x.o i else x.n i) := rfl
  rw [h]
  unfold Sx.mean
  by_cases e : i / 2 = q
  · cases hw : x.wr i <;> simp [e]
  · have e' : ¬ (i / 2 = q ∧ x.wr i = true) := fun h => e h.1
    rw [if_neg e']
    simp [e]
/-- The cells of a pen below k are cleaned. -/
def clrTo (x : Sx) (q k : Nat) : Sx := ⟨x.g, x.s, fun i => if i < k ∧ i / 2 = q then false else x.wr i, x.o, x.n⟩
theorem clrTo_0 (x : Sx) (q : Nat) : clrTo x q 0 = x := by cases x; simp [clrTo]
theorem clrTo_yes {x : Sx} {q k : Nat} (_hk : k / 2 = q) : (clrTo x q k).clean k = clrTo x q (k + 1) := by
  unfold clrTo Sx.clean
  simp only [Sx.mk.injEq, true_and, and_true]
  funext i
  by_cases e : i = k
  · subst e; rw [if_pos rfl, if_pos ⟨by omega, _hk⟩]
  · rw [if_neg e]
    by_cases h : i < k ∧ i / 2 = q
    · rw [if_pos h, if_pos ⟨by omega, h.2⟩]
    · rw [if_neg h, if_neg (fun h' => h ⟨by omega, h'.2⟩)]
theorem clrTo_no {x : Sx} {q k : Nat} (hk : (decide (k / 2 = q) && x.wr k) = false) : clrTo x q (k + 1) = clrTo x q k := by
  unfold clrTo
  simp only [Sx.mk.injEq, true_and, and_true]
  funext i
  by_cases e : i = k
  · subst e
    by_cases h : i / 2 = q
    · rw [if_pos ⟨by omega, h⟩, if_neg (fun h' => Nat.lt_irrefl _ h'.1)]
      simpa [h] using hk.symm
    · rw [if_neg (fun h' => h h'.2), if_neg (fun h' => h h'.2)]
  · by_cases h : i < k ∧ i / 2 = q
    · rw [if_pos h, if_pos ⟨by omega, h.2⟩]
    · rw [if_neg h, if_neg (fun h' => h ⟨by omega, h'.2⟩)]
theorem mean_end {x : Sx} {q : Nat} (hs : x.s q = true) (i : Nat) (hi : i < 4) : ((clrTo x q 4).end_ q).mean i = x.mean i := by
  unfold Sx.mean Sx.end_ clrTo
  simp only
  by_cases e : i / 2 = q
  · rw [e, hs]
    simp [hi]
  · simp only [e, and_false, if_false]

/-- What cells should mean, in a block of its own. -/
def NB (W : World) (nb : Nat) (n : Nat → Int) : Prop := Blk W nb 33 #[.int .i64 (n 0), .int .i64 (n 1), .int .i64 (n 2), .int .i64 (n 3)]
/-- One of its cells. -/
def NS (nb k : Nat) (z : Int) (W : World) : Prop := W.cell? ⟨nb, k, none⟩ = some (.int .i64 z) ∧ nb < W.heap.size
section
variable {w0 W W' : World} {p g m kk z nb q j k : Nat} {L : List (Nat × TypeId × Array Value)} {bb mp : Nat → Nat} {x y y' : Sx} {mn n : Nat → Int} {v : Int}
theorem NB.ns (h : NB W nb n) (hj : j < 4) : NS nb j (n j) W ∧ W.frozen? ⟨nb, j, none⟩ = false := by
  have : j = 0 ∨ j = 1 ∨ j = 2 ∨ j = 3 := by omega
  rcases this with rfl | rfl | rfl | rfl
  · exact ⟨⟨Blk.cell h 0, Blk.lt h⟩, Blk.frozen h _⟩
  · exact ⟨⟨Blk.cell h 1, Blk.lt h⟩, Blk.frozen h _⟩
  · exact ⟨⟨Blk.cell h 2, Blk.lt h⟩, Blk.frozen h _⟩
  · exact ⟨⟨Blk.cell h 3, Blk.lt h⟩, Blk.frozen h _⟩
theorem NB.set_ (h : NB W nb n) (hj : j < 4) (v : Int) : NB (W.setCell ⟨nb, j, none⟩ (.int .i64 v)) nb (upd n j v) := by
  have k := Blk.set_ h j (.int .i64 v)
  have e : (#[Value.int .i64 (n 0), .int .i64 (n 1), .int .i64 (n 2), .int .i64 (n 3)]).setIfInBounds j (.int .i64 v) = #[.int .i64 (upd n j v 0), .int .i64 (upd n j v 1), .int .i64 (upd n j v 2), .int .i64 (upd n j v 3)] := by
    have : j = 0 ∨ j = 1 ∨ j = 2 ∨ j = 3 := by omega
    rcases this with rfl | rfl | rfl | rfl <;> rfl
  rw [e] at k
  exact k
theorem NB.later (h : NB W nb n) (hb : Below W.heap.size W W') : NB W' nb n := Blk.later h hb
theorem NB.arena (h : NB W nb n) (hm : MA W p g m x) (ho : Only p g W W') : NB W' nb n := by
  obtain ⟨c, f, A, C, R⟩ := hm
  exact Blk.arena h A ho (by decide) (by decide)
theorem P0.setN (h : P0 w0 p g m L x W) (hN : NB W nb n) (hb : w0.heap.size ≤ nb) (hL : ∀ u ∈ L, u.2.1 ≠ 33) (u : Value) : P0 w0 p g m L x (W.setCell ⟨nb, j, none⟩ u) := by
  obtain ⟨c, f, A, C, R⟩ := h.ma
  have hN : Blk W nb 33 _ := hN
  exact ⟨⟨c, f, A.q_far (Blk.ne_p hN A (by decide)) (Blk.ne_g hN A (by decide)) _, C, R⟩, ⟨KeptL.of_mem fun z hz => have k := h.ks.k.mem z hz; ⟨k.b.far (k.b.ne_ hN (hL z hz)) _, k.t1, k.t2, k.t3⟩, h.ks.be.setCell hb _⟩, h.np, h.ng⟩
theorem lm_types4 {p mb lb : Nat} : ∀ z ∈ LM p mb lb, z.2.1 ≠ 33 := by
  intro z hz
  simp only [List.mem_cons, List.not_mem_nil, or_false] at hz
  rcases hz with rfl | rfl
  · exact (by decide : (31 : TypeId) ≠ 33)
  · exact (by decide : (28 : TypeId) ≠ 33)

/-- The authors' list besides. -/
abbrev LA (p mb lb ab : Nat) (bb : Nat → Nat) : List (Nat × TypeId × Array Value) := (ab, 39, #[.pointer (some ⟨bb 0, 0, none⟩), .pointer (some ⟨bb 1, 0, none⟩)]) :: LM p mb lb
/-- And a call. -/
abbrev LO (p mb lb ab : Nat) (bb : Nat → Nat) (ob : Nat) (a b c d : Int) : List (Nat × TypeId × Array Value) := (ob, 48, #[.int .i64 a, .int .i64 b, .int .i64 c, .int .i64 d]) :: LA p mb lb ab bb
theorem PW.addL (h : PW w0 p g m kk z L nb bb mp x mn y W) {b : Nat} {ty : TypeId} {cs : Array Value} (hb : Blk W b ty cs) (h1 : ty ≠ 88) (h2 : ty ≠ 37) (h3 : ty ≠ 100) (h4 : ty ≠ 33) (h5 : ty ≠ 44) : PW w0 p g m kk z ((b, ty, cs) :: L) nb bb mp x mn y W :=
  { h with ks := h.ks.add hb h1 h2 h3, kt := fun u hu => by rcases List.mem_cons.1 hu with rfl | hu; exact ⟨h4, h5⟩; exact h.kt u hu }
theorem PW.tl {u : Nat × TypeId × Array Value} (h : PW w0 p g m kk z (u :: L) nb bb mp x mn y W) : PW w0 p g m kk z L nb bb mp x mn y W :=
  { h with ks := ⟨h.ks.k.tl, h.ks.be⟩, kt := fun u hu => h.kt u (List.mem_cons_of_mem _ hu) }
/-- The call's variable is laid. -/
theorem PW.var (h : PW w0 p g m kk z L nb bb mp x mn y W) {a b c d : Int} : PW w0 p g m kk z ((W.heap.size, 48, #[.int .i64 a, .int .i64 b, .int .i64 c, .int .i64 d]) :: L) nb bb mp x mn y (W.alloc (.cells #[.int .i64 a, .int .i64 b, .int .i64 c, .int .i64 d] 48)) :=
  (h.alloc _).addL (Blk.new W _ _) (by decide) (by decide) (by decide) (by decide) (by decide)
/-- The map of a pen is turned. -/
theorem PW.setM {kk' : Nat} (h : PW w0 p g m kk 2 L nb bb mp x mn y W) (hq : q < 2) (hg : W.grownBy W' (some (mp q))) (hM : WM W' (mp q) q kk' y') (hk : kk ≤ kk') (e1 : y'.g = y.g) (e2 : y'.s = y.s) (e3 : ∀ i, i < 4 → i / 2 ≠ q → y.wr i = y'.wr i) (e4 : ∀ i, i < 4 → i / 2 ≠ q → y.n i = y'.n i) : PW w0 p g m kk' 2 L nb bb mp x mn y' W' := by
  have hb := h.mm q hq (by omega)
  have hz : PW w0 p g m kk q L nb bb mp x mn y W := { h with mm := fun i hi _ => h.mm i hi (by omega) }
  have k := hz.only (G := fun i => i = mp q) (W' := W') ⟨hg.os, hg.tape, hg.output, hg.size, fun i hi hn => hg.block i hi (fun e => hn (by cases e; rfl))⟩ (fun i hi => by
    subst hi
    refine ⟨h.nm q hq, hz.off_map (fun hi => hb.ne_blk hi) (fun i hi hne e => ?_)⟩
    have : (q = 0 ∧ i = 1) ∨ (q = 1 ∧ i = 0) := by omega
    rcases this with ⟨rfl, rfl⟩ | ⟨rfl, rfl⟩
    · exact h.nmp e
    · exact h.nmp e.symm)
  refine { k with au := fun i hi => by rw [e1, e2]; exact k.au i hi, mm := fun i hi _ => ?_ }
  by_cases e : i = q
  · subst e; exact hM
  · exact ((k.mm i hi e).eqY (fun j hj hji => e3 j hj (by omega)) (fun j hj hji _ => e4 j hj (by omega))).more hk

/-- What the drawn regions read. -/
structure PS2 (w0 : World) (L : List (Nat × TypeId × Array Value)) (b q tag mq : Nat) (s : Bool) (W : World) : Prop where
  ks : KS w0 L W
  au : AuB W b q tag mq s
theorem PW.ps2 (h : PW w0 p g m kk z L nb bb mp x mn y W) (hq : q < 2) : PS2 w0 L (bb q) q (y.g q) (mp q) (y.s q) W := ⟨h.ks, h.au q hq⟩
theorem la_cells {mb lb ab : Nat} (h : KeptL (LA p mb lb ab bb) W) : W.cell? ⟨lb, 0, none⟩ = some (.int .i64 2) ∧ W.cell? ⟨lb, 1, none⟩ = some (.int .i64 0) ∧ W.cell? ⟨lb, 2, none⟩ = some (.int .i64 8) ∧ W.cell? ⟨mb, 0, none⟩ = some (.pointer (some ⟨p, 0, none⟩)) ∧ (∀ q, q < 2 → W.cell? ⟨ab, q, none⟩ = some (.pointer (some ⟨bb q, 0, none⟩))) :=
  ⟨h.2.1.b.cell 0, h.2.1.b.cell 1, h.2.1.b.cell 2, h.2.2.1.b.cell 0, fun q hq => by
    have : q = 0 ∨ q = 1 := by omega
    rcases this with rfl | rfl
    · exact h.1.b.cell 0
    · exact h.1.b.cell 1⟩
theorem la_lts {mb lb ab : Nat} (h : KeptL (LA p mb lb ab bb) W) : lb < W.heap.size ∧ mb < W.heap.size ∧ ab < W.heap.size := ⟨h.2.1.b.lt, h.2.2.1.b.lt, h.1.b.lt⟩
theorem lo_cells {mb lb ab ob : Nat} {a b c d : Int} (h : KeptL (LO p mb lb ab bb ob a b c d) W) : W.cell? ⟨ob, 0, none⟩ = some (.int .i64 a) ∧ W.cell? ⟨ob, 1, none⟩ = some (.int .i64 b) ∧ W.cell? ⟨ob, 2, none⟩ = some (.int .i64 c) ∧ W.cell? ⟨ob, 3, none⟩ = some (.int .i64 d) ∧ ob < W.heap.size := ⟨h.1.b.cell 0, h.1.b.cell 1, h.1.b.cell 2, h.1.b.cell 3, h.1.b.lt⟩
/-- The authors are laid. -/
theorem P0.pw {mb lb : Nat} (h : P0 w0 p g m (LM p mb lb) (Sx0 n) W) (hN : NB W nb n) (hb : w0.heap.size ≤ nb) :
    PW w0 p g m 0 2 (LA p mb lb (W.heap.size + 4) (fun q => W.heap.size + 1 + 2 * q)) nb (fun q => W.heap.size + 1 + 2 * q) (fun q => W.heap.size + 2 * q) (Sx0 n) n (Sx0 n)
      (((((W.alloc (.map #[] 0)).alloc (.cells #[.int .i64 1, .int .i64 0, .map (some W.heap.size), .bool false] 44)).alloc (.map #[] 0)).alloc (.cells #[.int .i64 2, .int .i64 0, .map (some (W.heap.size + 2)), .bool false] 44)).alloc (.cells #[.pointer (some ⟨W.heap.size + 1, 0, none⟩), .pointer (some ⟨W.heap.size + 3, 0, none⟩)] 39)) := by
  have hz := h.ks.be.size
  have hB : Below W.heap.size W (((((W.alloc (.map #[] 0)).alloc (.cells #[.int .i64 1, .int .i64 0, .map (some W.heap.size), .bool false] 44)).alloc (.map #[] 0)).alloc (.cells #[.int .i64 2, .int .i64 0, .map (some (W.heap.size + 2)), .bool false] 44)).alloc (.cells #[.pointer (some ⟨W.heap.size + 1, 0, none⟩), .pointer (some ⟨W.heap.size + 3, 0, none⟩)] 39)) :=
    (((((Below.refl _ W).alloc (Nat.le_refl _) _).alloc (by simp) _).alloc (by simp; omega) _).alloc (by simp; omega) _).alloc (by simp; omega) _
  have hP := h.below hB
  have m0 := WM.made W 0 (Sx0 n) (fun _ _ _ => rfl)
  have m1 := WM.made ((W.alloc (.map #[] 0)).alloc (.cells #[.int .i64 1, .int .i64 0, .map (some W.heap.size), .bool false] 44)) 1 (Sx0 n) (fun _ _ _ => rfl)
  have e2 : ((W.alloc (.map #[] 0)).alloc (.cells #[.int .i64 1, .int .i64 0, .map (some W.heap.size), .bool false] 44)).heap.size = W.heap.size + 2 := by simp
  rw [e2] at m1
  have b0 := Blk.new (W.alloc (.map #[] 0)) 44 #[.int .i64 1, .int .i64 0, .map (some W.heap.size), .bool false]
  have b1 := Blk.new (((W.alloc (.map #[] 0)).alloc (.cells #[.int .i64 1, .int .i64 0, .map (some W.heap.size), .bool false] 44)).alloc (.map #[] 0)) 44 #[.int .i64 2, .int .i64 0, .map (some (W.heap.size + 2)), .bool false]
  have b2 := Blk.new ((((W.alloc (.map #[] 0)).alloc (.cells #[.int .i64 1, .int .i64 0, .map (some W.heap.size), .bool false] 44)).alloc (.map #[] 0)).alloc (.cells #[.int .i64 2, .int .i64 0, .map (some (W.heap.size + 2)), .bool false] 44)) 39 #[.pointer (some ⟨W.heap.size + 1, 0, none⟩), .pointer (some ⟨W.heap.size + 3, 0, none⟩)]
  have s0 : (W.alloc (.map #[] 0)).heap.size = W.heap.size + 1 := by simp
  have s1 : (((W.alloc (.map #[] 0)).alloc (.cells #[.int .i64 1, .int .i64 0, .map (some W.heap.size), .bool false] 44)).alloc (.map #[] 0)).heap.size = W.heap.size + 3 := by simp
  have s2 : ((((W.alloc (.map #[] 0)).alloc (.cells #[.int .i64 1, .int .i64 0, .map (some W.heap.size), .bool false] 44)).alloc (.map #[] 0)).alloc (.cells #[.int .i64 2, .int .i64 0, .map (some (W.heap.size + 2)), .bool false] 44)).heap.size = W.heap.size + 4 := by simp
  rw [s0] at b0
  rw [s1] at b1
  rw [s2] at b2
  have up := fun (W : World) (O : Obj) => (Below.refl W.heap.size W).alloc (Nat.le_refl _) O
  refine ⟨hP.ma, hP.ks.add b2 (by decide) (by decide) (by decide), hN.later hB, fun q hq => ?_, fun q hq _ => ?_, fun u hu => ?_, by simp, by simp, h.np, h.ng, hb, fun q _ => Nat.le_trans hz (by show W.heap.size ≤ W.heap.size + 1 + 2 * q; omega), fun q _ => Nat.le_trans hz (by show W.heap.size ≤ W.heap.size + 2 * q; omega)⟩
  · have : q = 0 ∨ q = 1 := by omega
    rcases this with rfl | rfl
    · exact ((b0.alloc _).alloc _).alloc _
    · exact b1.alloc _
  · have : q = 0 ∨ q = 1 := by omega
    rcases this with rfl | rfl
    · exact (((m0.keep ((up _ _).block _ m0.lt)).keep ((up _ _).block _ (by first | (simp; done) | (simp; omega)))).keep ((up _ _).block _ (by first | (simp; done) | (simp; omega)))).keep ((up _ _).block _ (by first | (simp; done) | (simp; omega)))
    · exact (m1.keep ((up _ _).block _ m1.lt)).keep ((up _ _).block _ (by first | (simp; done) | (simp; omega)))
  · rcases List.mem_cons.1 hu with rfl | hu
    · exact ⟨(by decide : (39 : TypeId) ≠ 33), (by decide : (39 : TypeId) ≠ 44)⟩
    · simp only [List.mem_cons, List.not_mem_nil, or_false] at hu
      rcases hu with rfl | rfl
      · exact ⟨(by decide : (31 : TypeId) ≠ 33), (by decide : (31 : TypeId) ≠ 44)⟩
      · exact ⟨(by decide : (28 : TypeId) ≠ 33), (by decide : (28 : TypeId) ≠ 44)⟩
/-- A plain word is stored, its bits given. -/
theorem p0_plainv (h : P0 w0 p g m L (Sx0 n) W) (hj : j < 4) {z v : Int} (hv : v = z * 65537) (h0 : 0 ≤ z) (h1 : z ≤ 65535) (hm : m ≤ 900000) :
    Calls Try.prog 11 #[.pointer (some ⟨p, 0, none⟩), .int .i64 (atK j : Int), .int .u64 v] W fun e w' => e = .returned (.int .i64 0) ∧ P0 w0 p g (m + 1) L (Sx0 (upd n j z)) w' ∧ Only p g W w' := by
  subst hv
  exact p0_plain h hj h0 h1 hm
theorem ma_means_is (h : MA W p g m x) (hj : j < 4) (hx : x.mean j = v) (hm : m ≤ 900000) :
    Calls Try.prog 19 #[.iface 28 (pmV p), vL 2 0 8, .int .i64 (atK j : Int)] W (Did p g (m + 2) x (.int .i64 v) W) := by
  subst hx
  exact ma_means h hj hm
/-- It has committed. -/
theorem PW.seen (h : PW w0 p g m kk 2 L nb bb mp x mn y W) (hq : q < 2) : PW w0 p g m kk 2 L nb bb mp x mn (y.commit q) (W.setCell ⟨bb q, 3, none⟩ (.bool true)) := by
  refine h.setA hq ?_ (fun i hi hne => ⟨rfl, by simp [Sx.commit, hne], rfl⟩) (fun i hi hz => ((h.mm i hi hz).setA (h.au q hq)).eqY (fun _ _ _ => rfl) (fun _ _ _ _ => rfl)) h.nmp h.nm
  have k := Blk.set_ (h.au q hq) 3 (.bool true)
  show AuB _ _ _ (y.g q) _ (if q = q then true else y.s q)
  rw [if_pos rfl]
  exact k
/-- Its next day begins. -/
theorem PW.day (h : PW w0 p g m kk 2 L nb bb mp x mn y W) (hq : q < 2) :
    PW w0 p g m kk 2 L nb bb (fun i => if i = q then W.heap.size else mp i) x mn ((clrTo y q 4).end_ q)
      ((((W.setCell ⟨bb q, 1, none⟩ (.int .i64 ((y.g q + 1 : Nat) : Int))).alloc (.map #[] 0)).setCell ⟨bb q, 2, none⟩ (.map (some W.heap.size))).setCell ⟨bb q, 3, none⟩ (.bool false)) := by
  have hlt : ∀ i, i < 2 → mp i < W.heap.size := fun i hi => (h.mm i hi (by omega)).lt
  have s1 : PW w0 p g m kk 2 L nb bb mp x mn ⟨fun i => if i = q then y.g q + 1 else y.g i, y.s, y.wr, y.o, y.n⟩ (W.setCell ⟨bb q, 1, none⟩ (.int .i64 ((y.g q + 1 : Nat) : Int))) := by
    refine h.setA hq ?_ (fun i hi hne => ⟨by simp [hne], rfl, rfl⟩) (fun i hi hz => ((h.mm i hi hz).setA (h.au q hq)).eqY (fun _ _ _ => rfl) (fun _ _ _ _ => rfl)) h.nmp h.nm
    have k := Blk.set_ (h.au q hq) 1 (.int .i64 ((y.g q + 1 : Nat) : Int))
    show AuB _ _ _ (if q = q then y.g q + 1 else y.g q) _ _
    rw [if_pos rfl]
    exact k
  have ez : (W.setCell ⟨bb q, 1, none⟩ (.int .i64 ((y.g q + 1 : Nat) : Int))).heap.size = W.heap.size := by simp [World.setCell]
  have s2 := s1.alloc (.map #[] 0)
  have m2 := WM.made (W.setCell ⟨bb q, 1, none⟩ (.int .i64 ((y.g q + 1 : Nat) : Int))) q (clrTo y q 4) (fun i hi hiq => by simp [clrTo, hi, hiq])
  rw [ez] at m2
  have s3 : PW w0 p g m kk 2 L nb bb (fun i => if i = q then W.heap.size else mp i) x mn ⟨fun i => if i = q then y.g q + 1 else y.g i, y.s, (clrTo y q 4).wr, y.o, y.n⟩ (((W.setCell ⟨bb q, 1, none⟩ (.int .i64 ((y.g q + 1 : Nat) : Int))).alloc (.map #[] 0)).setCell ⟨bb q, 2, none⟩ (.map (some W.heap.size))) := by
    refine s2.setA hq ?_ (fun i hi hne => ⟨rfl, rfl, by simp [hne]⟩) (fun i hi hz => ?_) ?_ (fun i hi => ?_)
    · have k := Blk.set_ (s2.au q hq) 2 (.map (some W.heap.size))
      show AuB _ _ _ _ (if q = q then W.heap.size else mp q) _
      rw [if_pos rfl]
      exact k
    · by_cases e : i = q
      · subst e
        simp only [if_true]
        exact ((m2.setA (s2.au i hi)).eqY (fun _ _ _ => rfl) (fun _ _ _ _ => rfl)).more (Nat.zero_le _)
      · simp only [if_neg e]
        exact ((s2.mm i hi hz).setA (s2.au q hq)).eqY (fun j hj hji => by simp only [clrTo]; rw [if_neg (fun h => e (by omega))]) (fun _ _ _ _ => rfl)
    · have a0 := hlt 0 (by omega)
      have a1 := hlt 1 (by omega)
      have a2 := h.nmp
      have : q = 0 ∨ q = 1 := by omega
      rcases this with rfl | rfl
      · show W.heap.size ≠ mp 1; omega
      · show mp 0 ≠ W.heap.size; omega
    · show w0.heap.size ≤ (if i = q then W.heap.size else mp i)
      split
      · exact h.ks.be.size
      · exact h.nm i hi
  refine s3.setA hq ?_ (fun i hi hne => ⟨rfl, by simp [Sx.end_, clrTo, hne], rfl⟩) (fun i hi hz => ((s3.mm i hi hz).setA (s3.au q hq)).eqY (fun _ _ _ => rfl) (fun _ _ _ _ => rfl)) s3.nmp s3.nm
  have k := Blk.set_ (s3.au q hq) 3 (.bool false)
  show Blk _ _ _ #[.int .i64 ((q : Int) + 1), .int .i64 ((if q = q then (clrTo y q 4).g q + 1 else (clrTo y q 4).g q : Nat) : Int), .map (some (if q = q then W.heap.size else mp q)), .bool (if q = q then false else (clrTo y q 4).s q)]
  simp only [if_true] at k ⊢
  exact k
/-- A block that is new. -/
theorem PW.off_new (h : PW w0 p g m kk z L nb bb mp x mn y W) : PWoff p g z nb L bb mp W.heap.size := by
  obtain ⟨c, f, A, C, R⟩ := h.ma
  exact ⟨by have := A.p_lt; omega, by have := A.g_lt; omega, by have := h.nbk.lt; omega, fun q hq => by have := Blk.lt (h.au q hq); omega, fun q hq hz => by have := (h.mm q hq hz).lt; omega, fun u hu => by have := (h.ks.k.mem u hu).b.lt; omega⟩
theorem PW.grown {r : Option Nat} (h : PW w0 p g m kk z L nb bb mp x mn y W) (hg : W.grownBy W' r) (hr : ∀ i, r = some i → w0.heap.size ≤ i ∧ PWoff p g z nb L bb mp i) : PW w0 p g m kk z L nb bb mp x mn y W' :=
  h.only (G := fun i => r = some i) ⟨hg.os, hg.tape, hg.output, hg.size, fun i hi hn => hg.block i hi (fun e => hn e.symm)⟩ hr
theorem grown_set (W : World) (b j : Nat) (u : Value) : W.grownBy (W.setCell ⟨b, j, none⟩ u) (some b) :=
  ⟨rfl, rfl, rfl, by simp [World.setCell], fun i _ hn => Below.heap_setCell W ⟨b, j, none⟩ u i (fun e => hn (by rw [e]))⟩
theorem PW.without (h : PW w0 p g m kk 2 L nb bb mp x mn y W) (q : Nat) : PW w0 p g m kk q L nb bb mp x mn y W := { h with mm := fun i hi _ => h.mm i hi (by omega) }
theorem PW.with_ (h : PW w0 p g m kk q L nb bb mp x mn y W) (hM : WM W (mp q) q kk y) : PW w0 p g m kk 2 L nb bb mp x mn y W := by
  refine { h with mm := fun i hi _ => ?_ }
  by_cases e : i = q
  · subst e; exact hM
  · exact h.mm i hi e
theorem run_four {k : Nat} (hk : k < 4) (W : World) : (Instr.index 33 (.agg #[.int .i64 (n 0), .int .i64 (n 1), .int .i64 (n 2), .int .i64 (n 3)]) (.int .i64 (k : Int))).run Try.prog W = .ok (.int .i64 (n k)) W := by
  have : k = 0 ∨ k = 1 ∨ k = 2 ∨ k = 3 := by omega
  rcases this with rfl | rfl | rfl | rfl <;> rfl
end
end Go.Proofs.Ytipjbgkfhkidkaa
