/- Forests, edges and lists over one memory: its calls; the cells of sides. -/
import Derived.Test.YtaooglagddphnaaAdD
namespace Go.Proofs.Ytaooglagddphnaa
open Go.RowKit

set_option maxRecDepth 100000

/-- A memory: its trees, their marks, and what the cells beside them have. -/
def TA (w : World) (V S T : Int) (p gb cap m : Nat) (f : Nat → Int) (mk : Nat → Nat) (ts : List Tp) : Prop := ∃ g, TM w V S T p gb cap m g ∧ FI V S g mk ts ∧ ∀ i : Nat, (i : Int) < o5 V S T → rs V S g i = f i
/-- The cell behind a side, or a list's head. -/
def nxA (V S T : Int) (v l x : Nat) : Nat := if x = 0 then hC V S T v l else nxC S T x
section
variable {V S T : Int} {w w' w0 : World} {p gb cap m m' k x i s u v l : Nat} {t : Bool} {f f' : Nat → Int} {mk : Nat → Nat} {ts : List Tp} {ls : List E1}
theorem TA.hR (h : TA w V S T p gb cap m f mk ts) : Rt V S T := by obtain ⟨_, h, _⟩ := h; exact h.hR
theorem TA.below (h : TA w V S T p gb cap m f mk ts) (hb : Below w.heap.size w w') : TA w' V S T p gb cap m f mk ts := by
  obtain ⟨g, h1, h2, h3⟩ := h
  exact ⟨g, h1.below hb, h2, h3⟩
theorem TA.drew (h : TA w V S T p gb cap m f mk ts) : TA w.drew V S T p gb cap m f mk ts := h.below (Below.refl _ _).drew
theorem TA.alloc (h : TA w V S T p gb cap m f mk ts) (o : Obj) : TA (w.alloc o) V S T p gb cap m f mk ts := h.below ((Below.refl _ _).alloc (Nat.le_refl _) o)
theorem TA.more (h : TA w V S T p gb cap m f mk ts) (hm : m ≤ m') : TA w V S T p gb cap m' f mk ts := by
  obtain ⟨g, h1, h2, h3⟩ := h
  exact ⟨g, h1.more hm, h2, h3⟩
theorem TA.cong (h : TA w V S T p gb cap m f mk ts) (e : ∀ i : Nat, (i : Int) < o5 V S T → f i = f' i) : TA w V S T p gb cap m f' mk ts := by
  obtain ⟨g, h1, h2, h3⟩ := h
  exact ⟨g, h1, h2, fun i hi => (h3 i hi).trans (e i hi)⟩
theorem TA.p_lt (h : TA w V S T p gb cap m f mk ts) : p < w.heap.size := by obtain ⟨_, h, _⟩ := h; exact h.p_lt
theorem TA.g_lt (h : TA w V S T p gb cap m f mk ts) : gb < w.heap.size := by obtain ⟨_, h, _⟩ := h; exact h.g_lt
theorem TA.em (h : TA w V S T p gb cap m f mk ts) : ∃ f9, EM w V S T p gb cap m f9 := by
  obtain ⟨g, h1, _⟩ := h
  obtain ⟨f9, h2, _⟩ := h1.em
  exact ⟨f9, h2⟩
theorem TA.far (h : TA w V S T p gb cap m f mk ts) {q j : Nat} {ty : TypeId} {cs : Array Value} (hq : Blk w q ty cs) (h1 : ty ≠ 118) (h2 : ty ≠ 51) (u : Value) : TA (w.setCell ⟨q, j, none⟩ u) V S T p gb cap m f mk ts := by
  obtain ⟨g, a, b, c⟩ := h
  exact ⟨g, a.far hq h1 h2 u, b, c⟩
theorem Blk.ta {q : Nat} {ty : TypeId} {cs : Array Value} (h : Blk w q ty cs) (A : TA w V S T p gb cap m f mk ts) (ho : Only p gb w w') (h1 : ty ≠ 118) (h2 : ty ≠ 51) : Blk w' q ty cs := by
  obtain ⟨_, A⟩ := A.em
  exact h.em A ho h1 h2
/-- What a call leaves: what is told, the cells, the marks. -/
def Dta (V S T : Int) (p gb cap m : Nat) (f : Nat → Int) (mk : Nat → Nat) (ts : List Tp) (r : Value) (w : World) (e : Ending) (w' : World) : Prop := e = .returned r ∧ TA w' V S T p gb cap m f mk ts ∧ Only p gb w w'
theorem ta_load (A : TA w V S T p gb cap m f mk ts) (hi : (i : Int) < o5 V S T) (hm : m ≤ 100000000) {iI : Int} (hI : iI = (i : Int)) :
    Calls Try.prog 165 #[pmV p, .int .i64 iI] w (Dta V S T p gb cap (m + 1) f mk ts (.int .u64 (f i)) w) := by
  subst hI
  obtain ⟨g, a, b, c⟩ := A
  refine (tcell a hi hm).mono ?_; rintro e w' ⟨rfl, h2, O⟩
  exact ⟨by rw [c i hi], ⟨g, h2, b, c⟩, O⟩
theorem Dur.ta {r : Value} {e : Ending} {g : Mg9} {U : (Nat → Int) → Nat → Int} (d : Dur V S T p gb cap m g (U (rs V S g)) r w e w') (hF : FI V S g mk ts) (c : ∀ i : Nat, (i : Int) < o5 V S T → rs V S g i = f i)
    (hU : ∀ a b i, a i = b i → U a i = U b i) : Dta V S T p gb cap m (U f) mk ts r w e w' := by
  obtain ⟨g', h1, h2, h3, h4, h5⟩ := d
  exact ⟨h1, ⟨g', h2, hF.beside h3, fun i hi => (h4 i hi).trans (hU _ _ i (c i hi))⟩, h5⟩
theorem ta_store (A : TA w V S T p gb cap m f mk ts) (hi : (i : Int) < o5 V S T) {x : Int} (h0 : 0 ≤ x) (h1 : x ≤ 18446744073709551615) (hm : m ≤ 100000000) {iI : Int} (hI : iI = (i : Int)) :
    Calls Try.prog 166 #[pmV p, .int .i64 iI, .int .u64 x] w (Dta V S T p gb cap (m + 1) (upd f i x) mk ts (.tuple #[]) w) := by
  subst hI
  obtain ⟨g, a, b, c⟩ := A
  refine (tcells a hi h0 h1 hm).mono ?_; rintro e w' d
  exact Dur.ta (U := fun a => upd a i x) d b c fun a b i h => upd_loc _ _ _ h
theorem ta_find_none (A : TA w V S T p gb cap m f mk ts) (hE : ER V S T f ls) (hu : (u : Int) < V) (hv : (v : Int) < V) (hne : u ≠ v) (hn : ∀ x ∈ ls, ¬ (x.u = min u v ∧ x.v = max u v)) (hm : m ≤ 100000000) :
    Calls Try.prog 45 #[vE V S T p, .int .i64 (u : Int), .int .i64 (v : Int)] w (Dta V S T p gb cap (m + 1) f mk ts (.tuple #[.int .i64 0, .bool false, .bool false]) w) := by
  obtain ⟨g, a, b, c⟩ := A
  refine (tfind_none a (hE.beside a.hR c) hu hv hne hn hm).mono ?_; rintro e w' ⟨rfl, h2, O⟩
  exact ⟨rfl, ⟨g, h2, b, c⟩, O⟩
theorem ta_find_some (A : TA w V S T p gb cap m f mk ts) (hE : ER V S T f ls) (hu : (u : Int) < V) (hv : (v : Int) < V) (hne : u ≠ v) {x : E1} (hx : x ∈ ls) (ex : x.u = min u v ∧ x.v = max u v) (hm : m ≤ 100000000) :
    Calls Try.prog 45 #[vE V S T p, .int .i64 (u : Int), .int .i64 (v : Int)] w (Dta V S T p gb cap (m + 1) f mk ts (.tuple #[.int .i64 (x.s : Int), .bool x.t, .bool true]) w) := by
  obtain ⟨g, a, b, c⟩ := A
  refine (tfind_some a (hE.beside a.hR c) hu hv hne hx ex hm).mono ?_; rintro e w' ⟨rfl, h2, O⟩
  exact ⟨rfl, ⟨g, h2, b, c⟩, O⟩
theorem ta_put (A : TA w V S T p gb cap m f mk ts) (hu : (u : Int) < V) (hv : (v : Int) < V) (hne : u ≠ v) (hs : (s : Int) < S) (hl : (l : Int) < lv V) (hm : m ≤ 99900000) :
    Calls Try.prog 38 #[vE V S T p, .int .i64 (s : Int), .int .i64 (u : Int), .int .i64 (v : Int), .int .i64 (l : Int), .bool t] w (Dta V S T p gb cap (m + 3) (putF V S T f ⟨s, min u v, max u v, l, t⟩) mk ts (.tuple #[]) w) := by
  obtain ⟨g, a, b, c⟩ := A
  refine (tput a hu hv hne hs hl hm).mono ?_; rintro e w' d
  exact Dur.ta (U := fun a => putF V S T a ⟨s, min u v, max u v, l, t⟩) d b c fun a b i h => upd_loc _ _ _ (upd_loc _ _ _ (upd_loc _ _ _ h))
theorem ta_remove (A : TA w V S T p gb cap m f mk ts) (hu : (u : Int) < V) (hv : (v : Int) < V) (hne : u ≠ v) (hm : m ≤ 100000000) :
    Calls Try.prog 48 #[vE V S T p, .int .i64 (u : Int), .int .i64 (v : Int)] w (Dta V S T p gb cap (m + 1) (upd f (eC V S T u v) 0) mk ts (.tuple #[]) w) := by
  obtain ⟨g, a, b, c⟩ := A
  refine (tremove a hu hv hne hm).mono ?_; rintro e w' d
  exact Dur.ta (U := fun a => upd a (eC V S T u v) 0) d b c fun a b i h => upd_loc _ _ _ h
theorem ta_lift (A : TA w V S T p gb cap m f mk ts) (hE : ER V S T f ls) {x : E1} (hx : x ∈ ls) {k : Nat} (hk : (k : Int) < lv V) (hm : m ≤ 99900000) :
    Calls Try.prog 49 #[vE V S T p, .int .i64 (x.s : Int), .int .i64 (k : Int)] w (Dta V S T p gb cap (m + 4) (upd f (sC S T x.s 2) (k : Int)) mk ts (.tuple #[]) w) := by
  obtain ⟨g, a, b, c⟩ := A
  refine (tlift a (hE.beside a.hR c) hx hk hm).mono ?_; rintro e w' d
  exact Dur.ta (U := fun a => upd a (sC S T x.s 2) (k : Int)) d b c fun a b i h => upd_loc _ _ _ h
theorem ta_mark (A : TA w V S T p gb cap m f mk ts) {on : Bool} (h1 : x ≠ 0) (h2 : x ≤ nN V S) (hk : k < 2) (hm : m ≤ 99960000) {xa ka : Int} (hxa : xa = (x : Int)) (hka : ka = (k : Int)) :
    Calls Try.prog 123 #[vTr V S T p, .int .i64 xa, .int .i64 ka, .bool on] w (Dta V S T p gb cap (m + 7 + 7 * nN V S) f (mkSet mk x k on) ts (.tuple #[]) w) := by
  obtain ⟨g, a, b, c⟩ := A
  refine (tmarkR a b h1 h2 hk hm hxa hka).mono ?_; rintro e w' ⟨g', rfl, h3, h4, h5, h6⟩
  exact ⟨rfl, ⟨g', h3, h4, fun i hi => (h5 i).trans (c i hi)⟩, h6⟩
theorem ta_marked (A : TA w V S T p gb cap m f mk ts) (h1 : x ≠ 0) (h2 : x ≤ nN V S) (hk : k < 2) (hm : m ≤ 99980000) {xI kI : Int} (hxI : xI = (x : Int)) (hkI : kI = (k : Int)) :
    Calls Try.prog 40 #[vTr V S T p, .int .i64 xI, .int .i64 kI] w (Dta V S T p gb cap (m + 1) f mk ts (.bool (hasB (mk x) k)) w) := by
  obtain ⟨g, a, b, c⟩ := A
  refine (tmarkedR a b h1 h2 hk hm hxI hkI).mono ?_; rintro e w' ⟨rfl, h3, h6⟩
  exact ⟨rfl, ⟨g, h3, b, c⟩, h6⟩
theorem TA.mk4 (A : TA w V S T p gb cap m f mk ts) (x : Nat) : mk x < 4 := by
  obtain ⟨g, a, b, c⟩ := A
  exact b.hm x
/-- The cells of sides and heads. -/
theorem nx_int (h : Rt V S T) (h1 : 1 ≤ x) (h2 : (x : Int) ≤ 2 * S) : slotF S T (((x - 1) / 2 : Nat) : Int) (sideF 3 (((x - 1) % 2 : Nat) : Int)) = ((nxC S T x : Nat) : Int) := by
  have e : sideF 3 (((x - 1) % 2 : Nat) : Int) = ((3 + (x - 1) % 2 : Nat) : Int) := by unfold sideF; rw [if_neg (by omega)]; omega
  rw [e]
  exact sC_int h (by omega) (by omega)
theorem pv_int (h : Rt V S T) (h1 : 1 ≤ x) (h2 : (x : Int) ≤ 2 * S) : slotF S T (((x - 1) / 2 : Nat) : Int) (sideF 5 (((x - 1) % 2 : Nat) : Int)) = ((pvC S T x : Nat) : Int) := by
  have e : sideF 5 (((x - 1) % 2 : Nat) : Int) = ((5 + (x - 1) % 2 : Nat) : Int) := by unfold sideF; rw [if_neg (by omega)]; omega
  rw [e]
  exact sC_int h (by omega) (by omega)
theorem head_int (h : Rt V S T) (hv : (v : Int) < V) (hl : (l : Int) < lv V) : headF V S T (v : Int) (l : Int) = ((hC V S T v l : Nat) : Int) ∧ ((hC V S T v l : Nat) : Int) = o3 S T + v * lv V + l ∧ 0 ≤ (v : Int) * lv V + l ∧ (v : Int) * lv V + l < vn V := by
  obtain ⟨h1, h2, h3⟩ := (head_spec (V := V) (S := S) (T := T) (v : Int) (l : Int)).1 ⟨by omega, hv, by omega, hl⟩
  have h4 := h.s1
  have h5 := h.t1
  have h6 : 0 ≤ o3 S T := by unfold o3; omega
  unfold hC
  refine ⟨?_, ?_, h2, h3⟩ <;> omega
theorem nx_o5 (h : Rt V S T) (h1 : 1 ≤ x) (h2 : (x : Int) ≤ 2 * S) : ((nxC S T x : Nat) : Int) < o5 V S T := sC_o5 h (by omega) (by omega)
theorem pv_o5 (h : Rt V S T) (h1 : 1 ≤ x) (h2 : (x : Int) ≤ 2 * S) : ((pvC S T x : Nat) : Int) < o5 V S T := sC_o5 h (by omega) (by omega)
theorem head_o5 (h : Rt V S T) (hv : (v : Int) < V) (hl : (l : Int) < lv V) : ((hC V S T v l : Nat) : Int) < o5 V S T := by
  have h1 := head_int h hv hl
  have h2 := (sizes h).pr1
  unfold o3 at h1
  unfold o5
  omega
theorem nxA_o5 (h : Rt V S T) (hv : (v : Int) < V) (hl : (l : Int) < lv V) (h2 : (x : Int) ≤ 2 * S) : ((nxA V S T v l x : Nat) : Int) < o5 V S T := by
  unfold nxA
  split
  · exact head_o5 h hv hl
  · exact nx_o5 h (by omega) h2
end

/-- A list's name; a value that has forests and edges. -/
abbrev vLs (v l : Nat) : Value := .agg #[.int .i64 (v : Int), .int .i64 (l : Int)]
abbrev vA (V S T : Int) (p : Nat) : Value := .agg #[.int .i64 V, .int .i64 S, .int .i64 T, .iface 84 (pmV p), .int .i64 1, .int .i64 0, .int .i64 V, .int .i64 S, .int .i64 T, .iface 84 (pmV p)]
def AjB (w : World) (b : Nat) (V S T : Int) (p : Nat) : Prop := Blk w b 38 #[.int .i64 V, .int .i64 S, .int .i64 T, .iface 84 (pmV p), .int .i64 1, .int .i64 0, .int .i64 V, .int .i64 S, .int .i64 T, .iface 84 (pmV p)]
def LsB (w : World) (b v l : Nat) : Prop := Blk w b 105 #[.int .i64 (v : Int), .int .i64 (l : Int)]
/-- In a call: its boxes, the memory, and what was there. -/
structure AX (w0 W : World) (b : Nat) (V S T : Int) (p gb cap m : Nat) (f : Nat → Int) (mk : Nat → Nat) (ts : List Tp) : Prop where
  e : AjB W b V S T p
  m : TA W V S T p gb cap m f mk ts
  o : Only p gb w0 W
structure AY (w0 W : World) (b lb v l : Nat) (V S T : Int) (p gb cap m : Nat) (f : Nat → Int) (mk : Nat → Nat) (ts : List Tp) : Prop where
  x : AX w0 W b V S T p gb cap m f mk ts
  l : LsB W lb v l
/-- What regions read. -/
def SA2 (W : World) (b lb v l : Nat) (V S T : Int) (p : Nat) : Prop := AjB W b V S T p ∧ LsB W lb v l
section
variable {V S T : Int} {w w' w0 : World} {b lb v l p gb cap m m' : Nat} {f f' : Nat → Int} {mk mk' : Nat → Nat} {ts ts' : List Tp}
theorem AjB.below (h : AjB w b V S T p) (hb : Below w.heap.size w w') : AjB w' b V S T p := Blk.below h hb (Blk.lt h)
theorem LsB.below (h : LsB w lb v l) (hb : Below w.heap.size w w') : LsB w' lb v l := Blk.below h hb (Blk.lt h)
theorem AjB.rule (b : Nat) (V S T : Int) (p : Nat) : ∀ W : World, AjB W b V S T p → W.cell? ⟨b, 0, none⟩ = some (.int .i64 V) ∧ W.cell? ⟨b, 1, none⟩ = some (.int .i64 S) ∧ W.cell? ⟨b, 2, none⟩ = some (.int .i64 T) ∧ W.cell? ⟨b, 3, none⟩ = some (.iface 84 (pmV p)) ∧
    W.cell? ⟨b, 4, none⟩ = some (.int .i64 1) ∧ W.cell? ⟨b, 5, none⟩ = some (.int .i64 0) ∧ W.cell? ⟨b, 6, none⟩ = some (.int .i64 V) ∧ W.cell? ⟨b, 7, none⟩ = some (.int .i64 S) ∧ W.cell? ⟨b, 8, none⟩ = some (.int .i64 T) ∧ W.cell? ⟨b, 9, none⟩ = some (.iface 84 (pmV p)) :=
  fun _ h => ⟨Blk.cell h 0, Blk.cell h 1, Blk.cell h 2, Blk.cell h 3, Blk.cell h 4, Blk.cell h 5, Blk.cell h 6, Blk.cell h 7, Blk.cell h 8, Blk.cell h 9⟩
theorem LsB.rule (lb v l : Nat) : ∀ W : World, LsB W lb v l → W.cell? ⟨lb, 0, none⟩ = some (.int .i64 (v : Int)) ∧ W.cell? ⟨lb, 1, none⟩ = some (.int .i64 (l : Int)) := fun _ h => ⟨Blk.cell h 0, Blk.cell h 1⟩
theorem SA2.rule (b lb v l : Nat) (V S T : Int) (p : Nat) : ∀ W : World, SA2 W b lb v l V S T p → (W.cell? ⟨b, 0, none⟩ = some (.int .i64 V) ∧ W.cell? ⟨b, 1, none⟩ = some (.int .i64 S) ∧ W.cell? ⟨b, 2, none⟩ = some (.int .i64 T) ∧ W.cell? ⟨b, 3, none⟩ = some (.iface 84 (pmV p)) ∧
    W.cell? ⟨b, 4, none⟩ = some (.int .i64 1) ∧ W.cell? ⟨b, 5, none⟩ = some (.int .i64 0) ∧ W.cell? ⟨b, 6, none⟩ = some (.int .i64 V) ∧ W.cell? ⟨b, 7, none⟩ = some (.int .i64 S) ∧ W.cell? ⟨b, 8, none⟩ = some (.int .i64 T) ∧ W.cell? ⟨b, 9, none⟩ = some (.iface 84 (pmV p))) ∧
    W.cell? ⟨lb, 0, none⟩ = some (.int .i64 (v : Int)) ∧ W.cell? ⟨lb, 1, none⟩ = some (.int .i64 (l : Int)) := fun W h => ⟨AjB.rule b V S T p W h.1, LsB.rule lb v l W h.2⟩
theorem AX.below (h : AX w0 w b V S T p gb cap m f mk ts) (hb : Below w.heap.size w w') : AX w0 w' b V S T p gb cap m f mk ts := ⟨h.e.below hb, h.m.below hb, h.o.trans (Only.of_below hb)⟩
theorem AX.drew (h : AX w0 w b V S T p gb cap m f mk ts) : AX w0 w.drew b V S T p gb cap m f mk ts := h.below (Below.refl _ _).drew
theorem AX.next (h : AX w0 w b V S T p gb cap m f mk ts) (hm : TA w' V S T p gb cap m' f' mk' ts') (ho : Only p gb w w') : AX w0 w' b V S T p gb cap m' f' mk' ts' := ⟨Blk.ta h.e h.m ho (by decide) (by decide), hm, h.o.trans ho⟩
theorem AX.new (h : TA w V S T p gb cap m f mk ts) : AX w (w.alloc (.cells #[.int .i64 V, .int .i64 S, .int .i64 T, .iface 84 (pmV p), .int .i64 1, .int .i64 0, .int .i64 V, .int .i64 S, .int .i64 T, .iface 84 (pmV p)] 38)) w.heap.size V S T p gb cap m f mk ts :=
  ⟨Blk.new _ _ _, h.alloc _, (Only.refl _ _ _).alloc _⟩
theorem AY.below (h : AY w0 w b lb v l V S T p gb cap m f mk ts) (hb : Below w.heap.size w w') : AY w0 w' b lb v l V S T p gb cap m f mk ts := ⟨h.x.below hb, h.l.below hb⟩
theorem AY.drew (h : AY w0 w b lb v l V S T p gb cap m f mk ts) : AY w0 w.drew b lb v l V S T p gb cap m f mk ts := h.below (Below.refl _ _).drew
theorem AY.next (h : AY w0 w b lb v l V S T p gb cap m f mk ts) (hm : TA w' V S T p gb cap m' f' mk' ts') (ho : Only p gb w w') : AY w0 w' b lb v l V S T p gb cap m' f' mk' ts' := ⟨h.x.next hm ho, Blk.ta h.l h.x.m ho (by decide) (by decide)⟩
theorem AY.new (h : TA w V S T p gb cap m f mk ts) (v l : Nat) : AY w ((w.alloc (.cells #[.int .i64 V, .int .i64 S, .int .i64 T, .iface 84 (pmV p), .int .i64 1, .int .i64 0, .int .i64 V, .int .i64 S, .int .i64 T, .iface 84 (pmV p)] 38)).alloc (.cells #[.int .i64 (v : Int), .int .i64 (l : Int)] 105)) w.heap.size (w.heap.size + 1) v l V S T p gb cap m f mk ts := by
  refine ⟨(AX.new h).below ((Below.refl _ _).alloc (Nat.le_refl _) _), ?_⟩
  have e : w.heap.size + 1 = (w.alloc (.cells #[.int .i64 V, .int .i64 S, .int .i64 T, .iface 84 (pmV p), .int .i64 1, .int .i64 0, .int .i64 V, .int .i64 S, .int .i64 T, .iface 84 (pmV p)] 38)).heap.size := by simp
  rw [e]
  exact Blk.new _ _ _
theorem AY.sa (h : AY w0 w b lb v l V S T p gb cap m f mk ts) : SA2 w b lb v l V S T p := ⟨h.x.e, h.l⟩
theorem AjB.cells (h : AjB w b V S T p) : w.cell? ⟨b, 0, none⟩ = some (.int .i64 V) ∧ w.cell? ⟨b, 1, none⟩ = some (.int .i64 S) ∧ w.cell? ⟨b, 2, none⟩ = some (.int .i64 T) ∧ w.cell? ⟨b, 3, none⟩ = some (.iface 84 (pmV p)) ∧
    w.cell? ⟨b, 4, none⟩ = some (.int .i64 1) ∧ w.cell? ⟨b, 5, none⟩ = some (.int .i64 0) ∧ w.cell? ⟨b, 6, none⟩ = some (.int .i64 V) ∧ w.cell? ⟨b, 7, none⟩ = some (.int .i64 S) ∧ w.cell? ⟨b, 8, none⟩ = some (.int .i64 T) ∧ w.cell? ⟨b, 9, none⟩ = some (.iface 84 (pmV p)) := AjB.rule b V S T p w h
theorem AjB.lt (h : AjB w b V S T p) : b < w.heap.size := Blk.lt h
theorem LsB.lt (h : LsB w lb v l) : lb < w.heap.size := Blk.lt h
theorem LsB.cells (h : LsB w lb v l) : w.cell? ⟨lb, 0, none⟩ = some (.int .i64 (v : Int)) ∧ w.cell? ⟨lb, 1, none⟩ = some (.int .i64 (l : Int)) := LsB.rule lb v l w h
end
end Go.Proofs.Ytaooglagddphnaa
