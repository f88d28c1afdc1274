/- slot and between, whatever they tell; what a call does to the list, plainly. -/
import Derived.Test.YtahabfjngeicmaaEkH
import Derived.Test.YtahabfjngeicmaaZTovR
namespace Go.Proofs.Ytahabfjngeicmaa
open Go.RowKit

set_option maxRecDepth 100000

/-- What slot tells; what between tells. -/
def SlI (ls : List E1) (s : Nat) (r : Int) : Prop := (r = -1 ∧ ∀ x ∈ ls, x.s ≠ s) ∨ ∃ (i : Nat) (x : E1), r = (i : Int) ∧ ls[i]? = some x ∧ x.s = s
def BtI (ls : List E1) (u v : Nat) (r : Int) : Prop := (r = -1 ∧ ∀ x ∈ ls, ¬ (x.u = min u v ∧ x.v = max u v)) ∨ ∃ (i : Nat) (x : E1), r = (i : Int) ∧ ls[i]? = some x ∧ x.u = min u v ∧ x.v = max u v
section
variable {w : World} {base q p : Nat} {V S T r : Int} {f : Nat → Int} {vl : Value} {ls : List E1} {s u v : Nat}
theorem slI_ex (ls : List E1) (s : Nat) : ∃ r, SlI ls s r := by
  by_cases h : ∃ x ∈ ls, x.s = s
  · obtain ⟨x, hx, e⟩ := h
    obtain ⟨i, hi⟩ := List.mem_iff_getElem?.1 hx
    exact ⟨i, .inr ⟨i, x, rfl, hi, e⟩⟩
  · exact ⟨-1, .inl ⟨rfl, fun x hx e => h ⟨x, hx, e⟩⟩⟩
theorem btI_ex (ls : List E1) (u v : Nat) : ∃ r, BtI ls u v r := by
  by_cases h : ∃ x ∈ ls, x.u = min u v ∧ x.v = max u v
  · obtain ⟨x, hx, e⟩ := h
    obtain ⟨i, hi⟩ := List.mem_iff_getElem?.1 hx
    exact ⟨i, .inr ⟨i, x, rfl, hi, e⟩⟩
  · exact ⟨-1, .inl ⟨rfl, fun x hx e => h ⟨x, hx, e⟩⟩⟩
theorem SlI.bd (h : SlI ls s r) (hl : ls.length ≤ 1000) : -1 ≤ r ∧ r < 1000 := by
  rcases h with ⟨rfl, _⟩ | ⟨i, x, rfl, hi, _⟩
  · omega
  · have := (List.getElem?_eq_some_iff.1 hi).1; omega
theorem BtI.bd (h : BtI ls u v r) (hl : ls.length ≤ 1000) : -1 ≤ r ∧ r < 1000 := by
  rcases h with ⟨rfl, _⟩ | ⟨i, x, rfl, hi, _⟩
  · omega
  · have := (List.getElem?_eq_some_iff.1 hi).1; omega
theorem SlI.neg (h : SlI ls s r) (hr : ¬ 0 ≤ r) : ∀ x ∈ ls, x.s ≠ s := by
  rcases h with ⟨_, h⟩ | ⟨i, x, rfl, _, _⟩
  · exact h
  · omega
theorem BtI.neg (h : BtI ls u v r) (hr : ¬ 0 ≤ r) : ∀ x ∈ ls, ¬ (x.u = min u v ∧ x.v = max u v) := by
  rcases h with ⟨_, h⟩ | ⟨i, x, rfl, _, _⟩
  · exact h
  · omega
theorem SlI.pos (h : SlI ls s r) (hr : 0 ≤ r) : ∃ (i : Nat) (x : E1), r = (i : Int) ∧ ls[i]? = some x ∧ x.s = s := by
  rcases h with ⟨rfl, _⟩ | h
  · omega
  · exact h
theorem BtI.pos (h : BtI ls u v r) (hr : 0 ≤ r) : ∃ (i : Nat) (x : E1), r = (i : Int) ∧ ls[i]? = some x ∧ x.u = min u v ∧ x.v = max u v := by
  rcases h with ⟨rfl, _⟩ | h
  · omega
  · exact h
theorem slot_any (hq : PB11 w q V S T p vl) (hO : OW w base vl ls) (hE : ER V S T f ls) (hl : ls.length ≤ 1000) (h : SlI ls s r) :
    Calls Try.prog 62 #[.pointer (some ⟨q, 0, none⟩), .int .i64 (s : Int)] w fun e w' => e = .returned (.int .i64 r) ∧ Below w.heap.size w w' := by
  rcases h with ⟨rfl, h⟩ | ⟨i, x, rfl, hi, hx⟩
  · exact slot_no hq hO hl h
  · exact slot_yes hq hO hl hi hx fun j y hj hy => hE.slot1 hj hi (hy.trans hx.symm)
theorem between_any (hq : PB11 w q V S T p vl) (hO : OW w base vl ls) (hE : ER V S T f ls) (hl : ls.length ≤ 1000) (h : BtI ls u v r) :
    Calls Try.prog 27 #[.pointer (some ⟨q, 0, none⟩), .int .i64 (u : Int), .int .i64 (v : Int)] w fun e w' => e = .returned (.int .i64 r) ∧ Below w.heap.size w w' := by
  rcases h with ⟨rfl, h⟩ | ⟨i, x, rfl, hi, hx⟩
  · exact between_no hq hO hl h
  · exact between_yes hq hO hl hi hx fun j y hj hy => hE.pair1 hj hi (hy.1.trans hx.1.symm) (hy.2.trans hx.2.symm)
theorem OW.own {w : World} (h : OW w base vl ls) : ∀ i, vl.ownBlock = some i → base ≤ i ∧ ∃ cs, Blk w i 79 cs := by
  rcases h.shape with ⟨rfl, _⟩ | ⟨g, c, cs, rfl, hg, hz, _⟩
  · intro i hi; cases hi
  · intro i hi
    have e : g = i := by injection hi
    subst e
    exact ⟨hg, cs, hz⟩
/-- Behind an append onto the play's own list, and its store. -/
theorem SX.appended {w0 w w' : World} {ob lo gb cap m : Nat} {kd sI uI vI lI : Int} {t : Bool} {v5 : Value} {ls5 : List E1} (h : SX w0 w base q ob lo V S T p gb cap m f vl ls kd sI uI vI lI t) (hg : w.grownBy w' vl.ownBlock) (hO : OW w' base v5 ls5) (h9 : w0.cell? ⟨q, 7, none⟩ = some vl) :
    PB11 w' q V S T p vl ∧ SX w0 (w'.setCell ⟨q, 7, none⟩ v5) base q ob lo V S T p gb cap m f v5 ls5 kd sI uI vI lI t ∧ SQ w' ob lo q p V S T vl kd sI uI vI lI t := by
  have hr := h.pw.ow.own
  have kp : ∀ {i : Nat} {ty : TypeId} {cs : Array Value}, Blk w i ty cs → ty ≠ 79 → Blk w' i ty cs := fun {i ty cs} hz ht => (hg.block i hz.lt fun e => by
    obtain ⟨_, cs', hz'⟩ := hr i e.symm
    exact Blk.ne_ hz hz' ht rfl).trans hz
  obtain ⟨hR, c, A, C⟩ := h.pw.em
  obtain ⟨zs, hz, he⟩ := A.cells
  have pq := kp h.pw.pq (by decide)
  have em : EM w' V S T p gb cap m f := ⟨hR, c, ⟨kp A.own (by decide), ⟨zs, kp hz (by decide), he⟩, A.le, A.few, A.fit⟩, C⟩
  have hfo := kp h.fo (by decide)
  have hfl := kp h.fl (by decide)
  refine ⟨pq, ⟨⟨Blk.set_ pq 7 v5, em.far pq (by decide) (by decide) _, ?_, h.pw.bq, h.pw.bp, h.pw.bg⟩, Blk.far (p := ⟨q, 7, none⟩) hfo (Blk.ne_ hfo pq (by decide)) _, Blk.far (p := ⟨q, 7, none⟩) hfl (Blk.ne_ hfl pq (by decide)) _, (h.be.grown hg h.pw.size fun i hi => (hr i hi).1).setCell h.pw.bq _, fun i cs hz => Blk.far (p := ⟨q, 7, none⟩) (kp (h.ke i cs hz) (by decide)) (Blk.ne_ (kp (h.ke i cs hz) (by decide)) pq (by decide)) _, fun i cs hz hv => Blk.far (p := ⟨q, 7, none⟩) ((hg.block i (h.kf i cs hz hv).lt (fun e => hv vl h9 e.symm)).trans (h.kf i cs hz hv)) (Blk.ne_ (show Blk w' i 79 cs from (hg.block i (h.kf i cs hz hv).lt (fun e => hv vl h9 e.symm)).trans (h.kf i cs hz hv)) pq (by decide)) _⟩, hfo, hfl, pq⟩
  refine hO.kept_of fun i hi => ?_
  obtain ⟨_, cs, hz⟩ := hO.own i hi
  exact (hz.far (p := ⟨q, 7, none⟩) (Blk.ne_ hz pq (by decide)) _).trans hz.symm
theorem SX.alloc {w0 w : World} {ob lo gb cap m : Nat} {kd sI uI vI lI : Int} {t : Bool} (h : SX w0 w base q ob lo V S T p gb cap m f vl ls kd sI uI vI lI t) (o : Obj) : SX w0 (w.alloc o) base q ob lo V S T p gb cap m f vl ls kd sI uI vI lI t := h.below ((Below.refl _ _).alloc (Nat.le_refl _) o)
/-- One edge, built for append. -/
theorem news1 (w : World) (x : E1) : ∀ (j : Nat) (u : Value), (flat5 [x])[j]? = some u → (w.alloc (.cells #[.int .i64 (x.s : Int), .int .i64 (x.u : Int), .int .i64 (x.v : Int), .int .i64 (x.l : Int), .bool x.t] 79)).cell? ((⟨w.heap.size, 0, none⟩ : Addr).add j) = some u := by
  intro j u hj
  rw [Addr.add_lit, Nat.zero_add, (Blk.new w _ _).cell]
  rw [flat5_one] at hj
  rw [← hj, ← Array.getElem?_toList]
  rfl
/-- Remove, of vertices told either way round. -/
theorem ER.rem_no (h : ER V S T f ls) (hu : (u : Int) < V) (hv : (v : Int) < V) (hne : u ≠ v) (hn : ∀ x ∈ ls, ¬ (x.u = min u v ∧ x.v = max u v)) : ER V S T (upd f (eC V S T u v) 0) ls := by
  rw [← eC_minmax]
  exact h.remove_no (by omega) (by omega) hn
theorem ER.rem (h : ER V S T f ls) (hR : Rt V S T) {i : Nat} {x : E1} (hi : ls[i]? = some x) (e : x.u = min u v ∧ x.v = max u v) : ER V S T (upd f (eC V S T u v) 0) (ls.eraseIdx i) := by
  rw [← eC_minmax, ← e.1, ← e.2]
  exact h.remove hR hi
theorem flat5_take (l : List E1) (i : Nat) : flat5 (l.take i) = (flat5 l).take (i * 5) := by
  induction l generalizing i with
  | nil => simp [flat5]
  | cons x l ih =>
    cases i with
    | zero => simp [flat5]
    | succ i => simp only [List.take_succ_cons, flat5, ih, E1.cells, List.cons_append, List.nil_append, Nat.succ_mul]
theorem flat5_drop (l : List E1) (i : Nat) : flat5 (l.drop i) = (flat5 l).drop (i * 5) := by
  induction l generalizing i with
  | nil => simp [flat5]
  | cons x l ih =>
    cases i with
    | zero => simp [flat5]
    | succ i => simp only [List.drop_succ_cons, flat5, ih, E1.cells, List.cons_append, List.nil_append, Nat.succ_mul]
/-- A list's cells, for append. -/
theorem OW.src {w : World} {g n c : Nat} (h : OW w base (.slice (some ⟨g, 0, none⟩) n c) ls) : ∀ (j : Nat) (u : Value), (flat5 ls)[j]? = some u → w.cell? ⟨g, j, none⟩ = some u := by
  intro j u hj
  rcases h.shape with ⟨e, _⟩ | ⟨g', c', cs, e, hg, hz, h1, h2, ⟨h3, h4⟩, _⟩
  · cases e
  · injection e with e1 e2 e3
    injection e1 with e1
    injection e1 with e1
    subst e1
    rw [hz.cell, ← Array.getElem?_toList]
    rw [← h4] at hj
    have hjl : j < ls.length * 5 := by
      have := (List.getElem?_eq_some_iff.1 hj).1
      rw [List.length_take] at this; omega
    rwa [List.getElem?_take_of_lt hjl] at hj
theorem OW.src_take {w : World} {g n c : Nat} (h : OW w base (.slice (some ⟨g, 0, none⟩) n c) ls) (i : Nat) : ∀ (j : Nat) (u : Value), (flat5 (ls.take i))[j]? = some u → w.cell? ((⟨g, 0, none⟩ : Addr).add j) = some u := by
  intro j u hj
  rw [Addr.add_lit, Nat.zero_add]
  rw [flat5_take] at hj
  refine h.src j u ?_
  have hjl := (List.getElem?_eq_some_iff.1 hj).1
  rw [List.length_take] at hjl
  rwa [List.getElem?_take_of_lt (by omega)] at hj
theorem OW.src_drop {w : World} {g n c : Nat} (h : OW w base (.slice (some ⟨g, 0, none⟩) n c) ls) (i : Nat) : ∀ (j : Nat) (u : Value), (flat5 (ls.drop i))[j]? = some u → w.cell? ((⟨g, i * 5, none⟩ : Addr).add j) = some u := by
  intro j u hj
  rw [Addr.add_lit]
  rw [flat5_drop, List.getElem?_drop] at hj
  exact h.src _ u hj
theorem take_drop_erase (l : List E1) (i : Nat) : l.take i ++ l.drop (i + 1) = l.eraseIdx i := (List.eraseIdx_eq_take_drop_succ l i).symm
/-- One of the play's own list turns, in place. -/
theorem SX.turned {w0 w : World} {ob lo gb cap m g c i j : Nat} {kd sI uI vI lI : Int} {t : Bool} {x y : E1} {uv : Value} (h : SX w0 w base q ob lo V S T p gb cap m f (.slice (some ⟨g, 0, none⟩) ls.length c) ls kd sI uI vI lI t) (hi : ls[i]? = some x) (hj : j < 5) (hy : y.cells = x.cells.set j uv) (h9 : w0.cell? ⟨q, 7, none⟩ = some (.slice (some ⟨g, 0, none⟩) ls.length c)) :
    SX w0 (w.setCell ⟨g, i * 5 + j, none⟩ uv) base q ob lo V S T p gb cap m f (.slice (some ⟨g, 0, none⟩) ls.length c) (ls.set i y) kd sI uI vI lI t := by
  obtain ⟨hb, cs, hz⟩ := h.pw.ow.own g rfl
  have hO := h.pw.ow.turned hi hj hy
  have f1 := Blk.far (p := ⟨g, i * 5 + j, none⟩) h.pw.pq (Blk.ne_ h.pw.pq hz (by decide)) uv
  have f2 := Blk.far (p := ⟨g, i * 5 + j, none⟩) h.fo (Blk.ne_ h.fo hz (by decide)) uv
  have f3 := Blk.far (p := ⟨g, i * 5 + j, none⟩) h.fl (Blk.ne_ h.fl hz (by decide)) uv
  exact ⟨⟨f1, h.pw.em.far hz (by decide) (by decide) _, hO, h.pw.bq, h.pw.bp, h.pw.bg⟩, f2, f3, h.be.setCell hb _, fun i9 cs9 hz9 => Blk.far (p := ⟨g, i * 5 + j, none⟩) (h.ke i9 cs9 hz9) (Blk.ne_ (h.ke i9 cs9 hz9) hz (by decide)) uv, fun i9 cs9 hz9 hv9 => Blk.far (p := ⟨g, i * 5 + j, none⟩) (h.kf i9 cs9 hz9 hv9) (fun e => hv9 _ h9 (by rw [e]; rfl)) uv⟩
theorem kp5_append (x : E1) (a b c : Int) : Kp5 ls (ls ++ [x]) a b c := fun _ h _ _ => List.mem_append_left _ h
theorem kp5_erase {i : Nat} {x : E1} (hi : ls[i]? = some x) (hx : x.u = min u v ∧ x.v = max u v) (a : Int) : Kp5 ls (ls.eraseIdx i) a (u : Int) (v : Int) := fun y hy _ hn => by
  obtain ⟨j, hj⟩ := List.mem_iff_getElem?.1 hy
  refine mem_erase_is hj fun e => hn ?_
  subst e
  rw [hi] at hj
  injection hj with hj
  subst hj
  omega
theorem kp5_set {i : Nat} {x y : E1} (hi : ls[i]? = some x) (hx : x.s = s) (b c : Int) : Kp5 ls (ls.set i y) (s : Int) b c := fun z hz hn _ => by
  obtain ⟨j, hj⟩ := List.mem_iff_getElem?.1 hz
  have hne : j ≠ i := fun e => by
    subst e
    rw [hi] at hj
    injection hj with hj
    subst hj
    omega
  exact List.mem_iff_getElem?.2 ⟨j, by rw [List.getElem?_set_ne (Ne.symm hne)]; exact hj⟩
end
end Go.Proofs.Ytahabfjngeicmaa
