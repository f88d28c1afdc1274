/- awake: a fixed answer. Printed by wip/tools/adw.py. -/
import Derived.Test.YtaooglagddphnaaAdU
import Derived.Test.YtaooglagddphnaaAdR
import Derived.Test.YtaooglagddphnaaAdL
namespace Go.Proofs.Ytaooglagddphnaa
open Go.RowKit

set_option maxRecDepth 100000
set_option linter.unusedSimpArgs false

section
variable {V S T : Int}
theorem LQ.nil (hR : Rt V S T) : LQ V S T zeroF fun _ _ => [] :=
  ⟨fun _ _ _ => rfl, fun _ _ _ _ => ⟨rfl, 0, rfl, rfl⟩, fun _ _ => List.nodup_nil, fun _ _ _ h => (nomatch h), fun _ _ _ _ _ h => (nomatch h), fun _ _ _ => ⟨0, 0, rfl, by have := hR.s1; omega, rfl, by have := hR.s1; omega⟩, fun x _ _ _ y hy e => by
    have e : (0 : Int) = (y : Int) := e
    omega⟩
theorem MQ.nil : MQ V (fun _ => 0) fun _ _ => [] := fun _ _ _ _ => (show hasB 0 0 = false by decide).trans (by simp)
theorem LK.nil : LK (fun _ _ => []) [] := fun _ _ _ => by simp
end
theorem R431a : Rt 4 3 1 := by constructor <;> decide
/-- awake's variables. -/
structure AW12 (w0 W : World) (b lo : Nat) (p gb cap m : Nat) (ts : List Tp) (bs : List E1) (q : Nat → Nat → List Nat) : Prop where
  x : ∃ f mk, AX w0 W b 4 3 1 p gb cap m f mk ts ∧ ER 4 3 1 f bs ∧ LQ 4 3 1 f q ∧ MQ 4 mk q
  l : Blk W lo 23 #[.int .i64 4, .int .i64 3, .int .i64 1]
section
variable {w w' w0 : World} {b lo p gb cap m m' s u v l : Nat} {ts : List Tp} {bs : List E1} {q : Nat → Nat → List Nat} {e : E1} {r : Bool} {D : List Nat}
theorem AW12.below (h : AW12 w0 w b lo p gb cap m ts bs q) (hb : Below w.heap.size w w') : AW12 w0 w' b lo p gb cap m ts bs q := by
  obtain ⟨⟨f, mk, h1, h2⟩, h3⟩ := h
  exact ⟨⟨f, mk, h1.below hb, h2⟩, h3.below hb h3.lt⟩
theorem AW12.drew (h : AW12 w0 w b lo p gb cap m ts bs q) : AW12 w0 w.drew b lo p gb cap m ts bs q := h.below (Below.refl _ _).drew
theorem AW12.ab (h : AW12 w0 w b lo p gb cap m ts bs q) : AjB w b 4 3 1 p ∧ Blk w lo 23 #[.int .i64 4, .int .i64 3, .int .i64 1] := by
  obtain ⟨⟨f, mk, h1, h2⟩, h3⟩ := h
  exact ⟨h1.e, h3⟩
theorem AW12.o (h : AW12 w0 w b lo p gb cap m ts bs q) : Only p gb w0 w := by
  obtain ⟨⟨f, mk, h1, h2⟩, h3⟩ := h
  exact h1.o
theorem AW12.li (h : AW12 w0 w b lo p gb cap m ts bs q) {vs : Value} {L : List Nat} (hL : LI w vs L) (ho : Only p gb w w') : LI w' vs L := by
  obtain ⟨⟨f, mk, h1, h2⟩, h3⟩ := h
  exact hL.ta h1.m ho
theorem AW12.put (h : AW12 w0 w b lo p gb cap m ts bs q) (hu : (u : Int) < 4) (hv : (v : Int) < 4) (hne : u ≠ v) (hs : (s : Int) < 3) (hs9 : ∀ e ∈ bs, e.s ≠ s) (hp9 : ∀ e ∈ bs, ¬ (e.u = min u v ∧ e.v = max u v)) (hm : m ≤ 99900000) :
    Calls Try.prog 38 #[vE 4 3 1 p, .int .i64 (s : Int), .int .i64 (u : Int), .int .i64 (v : Int), .int .i64 0, .bool false] w fun e w' => e = .returned (.tuple #[]) ∧ AW12 w0 w' b lo p gb cap (m + 3) ts (bs ++ [⟨s, min u v, max u v, 0, false⟩]) q := by
  obtain ⟨⟨f, mk, h1, h2, h3, h4⟩, h5⟩ := h
  refine (ta_put (l := 0) (t := false) h1.m hu hv hne hs (by decide) (by omega)).mono ?_; rintro e w' ⟨rfl, A, O⟩
  exact ⟨rfl, ⟨_, mk, h1.next A O, h2.put (x := ⟨s, min u v, max u v, 0, false⟩) R431a (by show min u v < max u v; omega) (by show ((max u v : Nat) : Int) < 4; omega) hs (show ((0 : Nat) : Int) < lv 4 by decide) hs9 hp9, h3.turn (putF_kl R431a (by show min u v < max u v; omega) (by show ((max u v : Nat) : Int) < 4; omega) hs), h4⟩, Blk.ta h5 h1.m O (by decide) (by decide)⟩
theorem AW12.add (h : AW12 w0 w b lo p gb cap m ts bs q) (he : e ∈ bs) (hd1 : ∀ a b, 2 * e.s + 1 ∉ q a b) (hd2 : ∀ a b, 2 * e.s + 2 ∉ q a b) (hm : m ≤ 99880000) :
    Calls Try.prog 39 #[vA 4 3 1 p, .int .i64 (e.s : Int)] w fun x w' => x = .returned (.tuple #[]) ∧ AW12 w0 w' b lo p gb cap (m + 34 + 16 * nN 4 3) ts bs (add2 q e.s e.u e.v e.l) := by
  obtain ⟨⟨f, mk, h1, h2, h3, h4⟩, h5⟩ := h
  obtain ⟨o1, o2, o3, o4⟩ := h2.ok e he
  obtain ⟨i1, i2, i3⟩ := h2.is e he
  refine (add_any12 h1.m h3 h4 o1 o2 o3 o4 i2 i3 hd1 hd2 (by omega)).mono ?_; rintro x w' ⟨f', mk', rfl, A, h6, ⟨h7, _⟩, h8, O⟩
  exact ⟨rfl, ⟨f', mk', h1.next A O, h8.er h2, h6, h7⟩, Blk.ta h5 h1.m O (by decide) (by decide)⟩
theorem AW12.rem (h : AW12 w0 w b lo p gb cap m ts bs q) (he : e ∈ bs) (hd1 : 2 * e.s + 1 ∈ q e.u e.l) (hd2 : 2 * e.s + 2 ∈ q e.v e.l) (hn1 : ((q e.u e.l).length : Int) ≤ 3) (hn2 : ((q e.v e.l).length : Int) ≤ 3) (hm : m ≤ 99880000) :
    Calls Try.prog 42 #[vA 4 3 1 p, .int .i64 (e.s : Int)] w fun x w' => x = .returned (.tuple #[]) ∧ AW12 w0 w' b lo p gb cap (m + 34 + 16 * nN 4 3) ts bs (rem2 q e.s e.u e.v e.l) ∧ Only p gb w w' := by
  obtain ⟨⟨f, mk, h1, h2, h3, h4⟩, h5⟩ := h
  obtain ⟨o1, o2, o3, o4⟩ := h2.ok e he
  obtain ⟨i1, i2, i3⟩ := h2.is e he
  refine (rem_any12 h1.m h3 h4 o1 o2 o3 o4 i2 i3 hd1 hd2 hn1 hn2 (by omega)).mono ?_; rintro x w' ⟨f', mk', rfl, A, h6, ⟨h7, _⟩, h8, O⟩
  exact ⟨rfl, ⟨⟨f', mk', h1.next A O, h8.er h2, h6, h7⟩, Blk.ta h5 h1.m O (by decide) (by decide)⟩, O⟩
theorem AW12.list (h : AW12 w0 w b lo p gb cap m ts bs q) (hv : (v : Int) < 4) {L : List Nat} (hL : dl q v 0 = L) (hlen : L.length ≤ 3) (hm : m ≤ 99880000) :
    Calls Try.prog 20 #[vA 4 3 1 p, .int .i64 (v : Int), .int .i64 0] w fun x w' => ∃ vs, x = .returned vs ∧ LI w' vs L ∧ AW12 w0 w' b lo p gb cap (m + 4) ts bs q := by
  obtain ⟨⟨f, mk, h1, h2, h3, h4⟩, h5⟩ := h
  have e1 : (q v 0).length = L.length := by rw [← hL]; unfold dl; simp
  refine (list_any12 (l := 0) h1.m h3 (by rw [e1]; omega) hv (by decide) (by omega) rfl rfl).mono ?_; rintro x w' ⟨vs, rfl, h6, _, A, O⟩
  exact ⟨vs, rfl, by rw [← hL]; exact h6, ⟨f, mk, h1.next (A.more (by omega)) O, h2, h3, h4⟩, Blk.ta h5 h1.m O (by decide) (by decide)⟩
theorem AW12.first (h : AW12 w0 w b lo p gb cap m ts bs q) (hv : (v : Int) < 4) {L : List Nat} (hL : dl q v 0 = L) (hm : m ≤ 99880000) :
    Calls Try.prog 19 #[vA 4 3 1 p, .int .i64 (v : Int), .int .i64 0] w fun x w' => x = .returned (fsV L) ∧ AW12 w0 w' b lo p gb cap (m + 1) ts bs q ∧ Only p gb w w' := by
  obtain ⟨⟨f, mk, h1, h2, h3, h4⟩, h5⟩ := h
  refine (first_any12 (l := 0) h1.m h3 hv (by decide) (by omega) rfl rfl).mono ?_; rintro x w' ⟨rfl, A, O⟩
  exact ⟨by rw [hL], ⟨⟨f, mk, h1.next A O, h2, h3, h4⟩, Blk.ta h5 h1.m O (by decide) (by decide)⟩, O⟩
theorem AW12.marked (h : AW12 w0 w b lo p gb cap m ts bs q) (hv : (v : Int) < 4) (hr : decide (q v 0 ≠ []) = r) (hm : m ≤ 99880000) {x : Int} (hx : x = ((ndA 4 v 0 : Nat) : Int)) :
    Calls Try.prog 40 #[vTr 4 3 1 p, .int .i64 x, .int .i64 0] w fun x w' => x = .returned (.bool r) ∧ AW12 w0 w' b lo p gb cap (m + 1) ts bs q ∧ Only p gb w w' := by
  obtain ⟨⟨f, mk, h1, h2, h3, h4⟩, h5⟩ := h
  obtain ⟨_, _, n1, n2⟩ := nd_int (l := 0) R431a hv (by decide)
  refine (ta_marked h1.m (by omega) n2 (by decide : (0 : Nat) < 2) (by omega) hx rfl).mono ?_; rintro x w' ⟨rfl, A, O⟩
  exact ⟨by rw [h4 v 0 hv (by decide), hr], ⟨⟨f, mk, h1.next A O, h2, h3, h4⟩, Blk.ta h5 h1.m O (by decide) (by decide)⟩, O⟩
theorem aw_rule12 (b lo p : Nat) : ∀ W : World, (AjB W b 4 3 1 p ∧ Blk W lo 23 #[.int .i64 4, .int .i64 3, .int .i64 1]) → (W.cell? ⟨b, 0, none⟩ = some (.int .i64 4) ∧ W.cell? ⟨b, 1, none⟩ = some (.int .i64 3) ∧ W.cell? ⟨b, 2, none⟩ = some (.int .i64 1) ∧ W.cell? ⟨b, 3, none⟩ = some (.iface 84 (pmV p)) ∧ W.cell? ⟨b, 4, none⟩ = some (.int .i64 1) ∧ W.cell? ⟨b, 5, none⟩ = some (.int .i64 0) ∧ W.cell? ⟨b, 6, none⟩ = some (.int .i64 4) ∧ W.cell? ⟨b, 7, none⟩ = some (.int .i64 3) ∧ W.cell? ⟨b, 8, none⟩ = some (.int .i64 1) ∧ W.cell? ⟨b, 9, none⟩ = some (.iface 84 (pmV p))) ∧ (W.cell? ⟨lo, 0, none⟩ = some (.int .i64 4) ∧ W.cell? ⟨lo, 1, none⟩ = some (.int .i64 3) ∧ W.cell? ⟨lo, 2, none⟩ = some (.int .i64 1)) := fun _ h => ⟨h.1.cells, h.2.cell 0, h.2.cell 1, h.2.cell 2⟩
/-- .. beside what List told. -/
def AWL (W : World) (b lo p c0 o0 : Nat) : Prop := (AjB W b 4 3 1 p ∧ Blk W lo 23 #[.int .i64 4, .int .i64 3, .int .i64 1]) ∧ W.cell? ⟨c0, o0, none⟩ = some (.int .i64 1) ∧ W.cell? ⟨c0, o0 + 1, none⟩ = some (.int .i64 0)
theorem AWL.rule (b lo p c0 o0 : Nat) : ∀ W : World, AWL W b lo p c0 o0 → ((W.cell? ⟨b, 0, none⟩ = some (.int .i64 4) ∧ W.cell? ⟨b, 1, none⟩ = some (.int .i64 3) ∧ W.cell? ⟨b, 2, none⟩ = some (.int .i64 1) ∧ W.cell? ⟨b, 3, none⟩ = some (.iface 84 (pmV p)) ∧ W.cell? ⟨b, 4, none⟩ = some (.int .i64 1) ∧ W.cell? ⟨b, 5, none⟩ = some (.int .i64 0) ∧ W.cell? ⟨b, 6, none⟩ = some (.int .i64 4) ∧ W.cell? ⟨b, 7, none⟩ = some (.int .i64 3) ∧ W.cell? ⟨b, 8, none⟩ = some (.int .i64 1) ∧ W.cell? ⟨b, 9, none⟩ = some (.iface 84 (pmV p))) ∧ (W.cell? ⟨lo, 0, none⟩ = some (.int .i64 4) ∧ W.cell? ⟨lo, 1, none⟩ = some (.int .i64 3) ∧ W.cell? ⟨lo, 2, none⟩ = some (.int .i64 1))) ∧ W.cell? ⟨c0, o0, none⟩ = some (.int .i64 1) ∧ W.cell? ⟨c0, o0 + 1, none⟩ = some (.int .i64 0) := fun W h => ⟨aw_rule12 b lo p W h.1, h.2⟩
theorem LI.two12 {a : Option Addr} {k c : Nat} (h : LI w (.slice a k c) [1, 0]) : ∃ c0 o0, a = some ⟨c0, o0, none⟩ ∧ k = 2 ∧ w.cell? ⟨c0, o0, none⟩ = some (.int .i64 1) ∧ w.cell? ⟨c0, o0 + 1, none⟩ = some (.int .i64 0) := by
  obtain ⟨b, o, cap, e, _, _, _, hk⟩ := h.open_ (by simp)
  injection e with e1 e2 e3
  exact ⟨b, o, e1, e2, hk 0 1 rfl, hk 1 0 rfl⟩
theorem AW12.awl {c0 o0 k c : Nat} (h : AW12 w0 w b lo p gb cap m ts bs q) (hL : LI w (.slice (some ⟨c0, o0, none⟩) k c) [1, 0]) : AWL w b lo p c0 o0 := by
  obtain ⟨b', o', e, _, h1, h2⟩ := hL.two12
  cases e
  exact ⟨h.ab, h1, h2⟩
theorem cell_lt12w {W : World} {b o : Nat} {v : Value} (h : W.cell? ⟨b, o, none⟩ = some v) : b < W.heap.size := by
  rcases Nat.lt_or_ge b W.heap.size with h1 | h1
  · exact h1
  · exfalso
    unfold World.cell? at h
    rw [Array.getElem?_eq_none h1] at h
    cases h
end
theorem vx1 : vertexF 4 0 1 = 2 := by decide
theorem vx3 : vertexF 4 0 3 = 4 := by decide
def aq0 : Nat → Nat → List Nat := fun _ _ => []
def aq1 := add2 aq0 0 1 2 0
def aq2 := add2 aq1 1 2 3 0
def aq3 := rem2 aq2 0 1 2 0
theorem aq1_mem {x a b : Nat} (h : x ∈ aq1 a b) : x = 1 ∨ x = 2 := by
  rcases (mem_add2 (by decide)).1 h with h | ⟨_, ⟨h, _⟩ | ⟨h, _⟩⟩
  · cases h
  · exact .inl h
  · exact .inr h
set_option maxHeartbeats 8000000 in
theorem awake_any12 (w : World) : Calls Try.prog 11 #[] w fun e w' => e = .returned (.bool true) ∧ Below w.heap.size w w' := by
  have HLB : Hid (Blk (w.alloc (.cells #[.int .i64 4, .int .i64 3, .int .i64 1] 23)) w.heap.size 23 #[.int .i64 4, .int .i64 3, .int .i64 1]) := Lib.hid (Blk.new _ _ _)
  have HB0 : Hid (Below w.heap.size w (w.alloc (.cells #[.int .i64 4, .int .i64 3, .int .i64 1] 23))) := Lib.hid ((Below.refl _ _).alloc (Nat.le_refl _) _)
  have hn560 := nN_le R431a
  obtain ⟨n9, hn9⟩ : ∃ k, nN 4 3 = k := ⟨_, rfl⟩
  have HN9 := Lib.hid hn9
  rw [hn9] at hn560
  clear hn9
  go_enter Try.func11, Try.ntmps11
  go_wp2_with fail
  generalize w.alloc (.cells #[.int .i64 4, .int .i64 3, .int .i64 1] 23) = v0 at HLB HB0 ⊢
  generalize w.heap.size = lo at HLB ⊢
  refine (begun_any12 R431a).mono ?_; rintro e w1 ⟨p, gb, rfl, hT, hB, hp, hg⟩
  have HP : Hid (Below w.heap.size w w1 ∧ w.heap.size ≤ p ∧ w.heap.size ≤ gb) := Lib.hid ⟨HB0.out.trans (hB.mono HB0.out.size), Nat.le_trans HB0.out.size hp, Nat.le_trans HB0.out.size hg⟩
  have HL1 := Lib.hid (HLB.out.below hB HLB.out.lt)
  obtain ⟨m9, hm9⟩ : ∃ k, 10 * nN 4 3 = k := ⟨_, rfl⟩
  rw [hm9] at hT
  have m9I : m9 ≤ 5600 := by have := HN9.out; omega
  have H1 : Hid (AW12 w1 (w1.alloc (.cells #[.int .i64 4, .int .i64 3, .int .i64 1, .iface 84 (pmV p), .int .i64 1, .int .i64 0, .int .i64 4, .int .i64 3, .int .i64 1, .iface 84 (pmV p)] 38)) w1.heap.size lo p gb (cellsN 4 3 1) m9 (sing (nN 4 3)) [] aq0) := Lib.hid ⟨⟨_, _, AX.new hT, ER.nil fun _ => rfl, LQ.nil R431a, MQ.nil⟩, HL1.out.alloc _⟩
  clear hT hB hp hg HB0 HLB HL1 hm9
  go_wp2_with fail
  generalize w1.alloc (.cells #[.int .i64 4, .int .i64 3, .int .i64 1, .iface 84 (pmV p), .int .i64 1, .int .i64 0, .int .i64 4, .int .i64 3, .int .i64 1, .iface 84 (pmV p)] 38) = v1 at H1 ⊢
  generalize w1.heap.size = b at H1 ⊢
  generalize sing (nN 4 3) = ts at H1
  generalize cellsN 4 3 1 = cap at H1
  refine (H1.out.put (s := 0) (u := 2) (v := 1) (by decide) (by decide) (by decide) (by decide) (fun _ h => nomatch h) (fun _ h => nomatch h) (by omega)).mono ?_; rintro e w2 ⟨rfl, h9⟩
  have H2 := Lib.hid h9
  clear H1 h9
  obtain ⟨⟨c0, c1, c2, c3, c4, c5, c6, c7, c8, c9⟩, l0, l1, l2⟩ := aw_rule12 b lo p _ H2.out.ab
  have blt := H2.out.ab.1.lt
  have llt := H2.out.ab.2.lt
  go_wp2_with fail
  refine (H2.out.put (s := 1) (u := 2) (v := 3) (by decide) (by decide) (by decide) (by decide) (by decide) (by decide) (by omega)).mono ?_; rintro e w3 ⟨rfl, h9⟩
  have H3 := Lib.hid h9
  clear H2 h9 c0 c1 c2 c3 c4 c5 c6 c7 c8 c9 l0 l1 l2 blt llt
  obtain ⟨⟨c0, c1, c2, c3, c4, c5, c6, c7, c8, c9⟩, l0, l1, l2⟩ := aw_rule12 b lo p _ H3.out.ab
  have blt := H3.out.ab.1.lt
  have llt := H3.out.ab.2.lt
  go_wp2_with fail
  refine (H3.out.add (e := ⟨0, 1, 2, 0, false⟩) (by simp) (fun _ _ h => nomatch h) (fun _ _ h => nomatch h) (by omega)).mono ?_; rintro e w4 ⟨rfl, h9⟩
  rw [HN9.out] at h9
  have H4 : Hid (AW12 w1 w4 b lo p gb cap (m9 + 3 + 3 + 34 + 16 * n9) ts [⟨0, 1, 2, 0, false⟩, ⟨1, 2, 3, 0, false⟩] aq1) := Lib.hid h9
  clear H3 h9 c0 c1 c2 c3 c4 c5 c6 c7 c8 c9 l0 l1 l2 blt llt
  obtain ⟨⟨c0, c1, c2, c3, c4, c5, c6, c7, c8, c9⟩, l0, l1, l2⟩ := aw_rule12 b lo p _ H4.out.ab
  have blt := H4.out.ab.1.lt
  have llt := H4.out.ab.2.lt
  go_wp2_with fail
  refine (H4.out.add (e := ⟨1, 2, 3, 0, false⟩) (by simp) (fun _ _ h => by have := aq1_mem h; simp at this) (fun _ _ h => by have := aq1_mem h; simp at this) (by omega)).mono ?_; rintro e w5 ⟨rfl, h9⟩
  rw [HN9.out] at h9
  have H5 : Hid (AW12 w1 w5 b lo p gb cap (m9 + 3 + 3 + 34 + 16 * n9 + 34 + 16 * n9) ts [⟨0, 1, 2, 0, false⟩, ⟨1, 2, 3, 0, false⟩] aq2) := Lib.hid h9
  clear H4 h9 c0 c1 c2 c3 c4 c5 c6 c7 c8 c9 l0 l1 l2 blt llt
  obtain ⟨⟨c0, c1, c2, c3, c4, c5, c6, c7, c8, c9⟩, l0, l1, l2⟩ := aw_rule12 b lo p _ H5.out.ab
  have blt := H5.out.ab.1.lt
  have llt := H5.out.ab.2.lt
  go_upto_region 9 with fail
  clear c0 c1 c2 c3 c4 c5 c6 c7 c8 c9 l0 l1 l2 blt llt
  have Hd := Lib.hid H5.out.drew
  clear H5
  obtain ⟨⟨c0, c1, c2, c3, c4, c5, c6, c7, c8, c9⟩, l0, l1, l2⟩ := aw_rule12 b lo p _ Hd.out.ab
  have blt := Hd.out.ab.1.lt
  have llt := Hd.out.ab.2.lt
  have hrule := aw_rule12 b lo p
  refine wp_region_held_drew (S := (fun W => AjB W b 4 3 1 p ∧ Blk W lo 23 #[.int .i64 4, .int .i64 3, .int .i64 1])) (by kernel_rfl) ?_ (fun hHeld => ?_)
  · exact Hd.out.ab
  refine tkN (i := 0) (v := ?_) rfl ?_ ?_
  rotate_left
  · (intro w hSw; (try dsimp only at hSw); go_simp; try with_reducible rfl)
  try simp only [Act.put, sq1, sq2, sq3, sq4, sq5]
  refine tkN (i := 2) (v := ?_) rfl ?_ ?_
  rotate_left
  · (intro w hSw; (try dsimp only at hSw); go_simp; try with_reducible rfl)
  try simp only [Act.put, sq1, sq2, sq3, sq4, sq5, sq6]
  refine tkN (i := 3) (v := ?_) rfl ?_ ?_
  rotate_left
  · (intro w hSw; (try dsimp only at hSw); go_simp; try with_reducible rfl)
  try simp only [Act.put, sq1, sq2, sq3, sq4, sq5, sq6]
  refine tkN (i := 4) (v := ?_) rfl ?_ ?_
  rotate_left
  · (intro w hSw; (try dsimp only at hSw); go_simp; try with_reducible rfl)
  try simp only [Act.put, sq1, sq2, sq3, sq4, sq5, sq6]
  refine tkN (i := 5) (v := ?_) rfl ?_ ?_
  rotate_left
  · (intro w hSw; (try dsimp only at hSw); go_simp; try with_reducible rfl)
  try simp only [Act.put, sq1, sq2, sq3, sq4, sq5, sq6]
  refine wpAnyH_ready (rs := [1]) (by kernel_rfl) (by simp) ?_
  refine AllReadyH.cons rfl (fun K hK => ?_) ?_
  rotate_left
  · exact AllReadyH.nil
  go_simp
  (refine (Hd.out.list (v := 2) (by decide) (L := [1, 0]) (by decide) (by decide) (by omega)).mono ?_; rintro e w6 ⟨vs, rfl, hli, h9⟩; have H6 := Lib.hid h9; have HI6 := Lib.hid hli; clear h9 hli)
  go_wp2_with fail
  refine hK.out _ _ ?_ (fun hHeld => ?_)
  · (try dsimp only); (first | (with_reducible assumption) | (with_reducible exact H8.out.ab) | (with_reducible exact H7.out.ab) | (with_reducible exact H6.out.ab) | (with_reducible exact Hd.out.ab))
  clear hK K
  try simp only [Act.put, sq1, sq2, sq3, sq4, sq5, sq6]
  refine wpAnyH_ready (rs := [6]) (by kernel_rfl) (by simp) ?_
  refine AllReadyH.cons rfl (fun K hK => ?_) ?_
  rotate_left
  · exact AllReadyH.nil
  go_simp
  (refine (vertex_yes _ _ _ _ _ R431a _).mono ?_; rintro e w7 ⟨rfl, hb7⟩; rw [vx1]; have H7 := Lib.hid (H6.out.below hb7); have HI7 := Lib.hid (HI6.out.below hb7))
  go_wp2_with fail
  refine hK.out _ _ ?_ (fun hHeld => ?_)
  · (try dsimp only); (first | (with_reducible assumption) | (with_reducible exact H8.out.ab) | (with_reducible exact H7.out.ab) | (with_reducible exact H6.out.ab) | (with_reducible exact Hd.out.ab))
  clear hK K
  try simp only [Act.put, sq1, sq2, sq3, sq4, sq5, sq6]
  refine wpAnyH_ready (rs := [7]) (by kernel_rfl) (by simp) ?_
  refine AllReadyH.cons rfl (fun K hK => ?_) ?_
  rotate_left
  · exact AllReadyH.nil
  go_simp
  (refine (H7.out.marked (v := 1) (r := true) (by decide) (by decide) (by omega) (by decide)).mono ?_; rintro e w8 ⟨rfl, h9, O9⟩; have H8 := Lib.hid h9; have HI8 := Lib.hid (H7.out.li HI7.out O9); clear h9 O9)
  go_wp2_with fail
  refine hK.out _ _ ?_ (fun hHeld => ?_)
  · (try dsimp only); (first | (with_reducible assumption) | (with_reducible exact H8.out.ab) | (with_reducible exact H7.out.ab) | (with_reducible exact H6.out.ab) | (with_reducible exact Hd.out.ab))
  clear hK K
  try simp only [Act.put, sq1, sq2, sq3, sq4, sq5, sq6]
  refine tkN (i := 8) (v := ?_) rfl ?_ ?_
  rotate_left
  · (intro w hSw; (try dsimp only at hSw); go_simp; try with_reducible rfl)
  try simp only [Act.put, sq1, sq2, sq3, sq4, sq5, sq6]
  refine tkN (i := 9) (v := ?_) rfl ?_ ?_
  rotate_left
  · (intro w hSw; (try dsimp only at hSw); go_simp; try with_reducible rfl)
  try simp only [Act.put, sq1, sq2, sq3, sq4, sq5, sq6]
  refine wpAnyH_done (by kernel_rfl) ?_ _
  obtain ⟨av, cv, rfl, _, _⟩ := HI8.out.shape
  clear hrule Hd H6 HI6 H7 HI7 hb7 c0 c1 c2 c3 c4 c5 c6 c7 c8 c9 l0 l1 l2 blt llt
  obtain ⟨⟨c0, c1, c2, c3, c4, c5, c6, c7, c8, c9⟩, l0, l1, l2⟩ := aw_rule12 b lo p _ H8.out.ab
  have blt := H8.out.ab.1.lt
  have llt := H8.out.ab.2.lt
  go_wp2_with fail
  refine (H8.out.rem (e := ⟨0, 1, 2, 0, false⟩) (by simp) (by decide) (by decide) (by decide) (by decide) (by omega)).mono ?_; rintro e w9 ⟨rfl, h9, O9⟩
  rw [HN9.out] at h9
  have H9 : Hid (AW12 w1 w9 b lo p gb cap (m9 + 3 + 3 + 34 + 16 * n9 + 34 + 16 * n9 + 4 + 1 + 34 + 16 * n9) ts [⟨0, 1, 2, 0, false⟩, ⟨1, 2, 3, 0, false⟩] aq3) := Lib.hid h9
  have HI9 := Lib.hid (H8.out.li HI8.out O9)
  clear H8 HI8 O9 h9 c0 c1 c2 c3 c4 c5 c6 c7 c8 c9 l0 l1 l2 blt llt
  obtain ⟨⟨c0, c1, c2, c3, c4, c5, c6, c7, c8, c9⟩, l0, l1, l2⟩ := aw_rule12 b lo p _ H9.out.ab
  have blt := H9.out.ab.1.lt
  have llt := H9.out.ab.2.lt
  go_wp2_with fail
  refine (H9.out.first (v := 2) (by decide) (L := [1]) (by decide) (by omega)).mono ?_; rintro e x1 ⟨rfl, h9, O9⟩
  simp only [fsV]
  have H10 := Lib.hid h9
  have HI10 := Lib.hid (H9.out.li HI9.out O9)
  clear H9 HI9 O9 h9 c0 c1 c2 c3 c4 c5 c6 c7 c8 c9 l0 l1 l2 blt llt
  obtain ⟨⟨c0, c1, c2, c3, c4, c5, c6, c7, c8, c9⟩, l0, l1, l2⟩ := aw_rule12 b lo p _ H10.out.ab
  have blt := H10.out.ab.1.lt
  have llt := H10.out.ab.2.lt
  go_wp2_with fail
  refine (H10.out.first (v := 1) (by decide) (L := []) (by decide) (by omega)).mono ?_; rintro e x2 ⟨rfl, h9, O9⟩
  simp only [fsV]
  have H11 := Lib.hid h9
  have HI11 := Lib.hid (H10.out.li HI10.out O9)
  clear H10 HI10 O9 h9 c0 c1 c2 c3 c4 c5 c6 c7 c8 c9 l0 l1 l2 blt llt
  obtain ⟨c00, o00, rfl, hk2, d0, d1⟩ := HI11.out.two12
  clear hk2
  have clt := cell_lt12w d0
  obtain ⟨⟨c0, c1, c2, c3, c4, c5, c6, c7, c8, c9⟩, l0, l1, l2⟩ := aw_rule12 b lo p _ H11.out.ab
  have blt := H11.out.ab.1.lt
  have llt := H11.out.ab.2.lt
  go_upto_region 13 with fail
  clear d0 d1 clt c0 c1 c2 c3 c4 c5 c6 c7 c8 c9 l0 l1 l2 blt llt
  have Hd := Lib.hid H11.out.drew
  have HId := Lib.hid (HI11.out.below (Below.refl _ _).drew)
  clear H11 HI11
  obtain ⟨⟨c0, c1, c2, c3, c4, c5, c6, c7, c8, c9⟩, l0, l1, l2⟩ := aw_rule12 b lo p _ Hd.out.ab
  have blt := Hd.out.ab.1.lt
  have llt := Hd.out.ab.2.lt
  obtain ⟨_, d0, d1⟩ := Hd.out.awl HId.out
  have clt := cell_lt12w d0
  have hrule := AWL.rule b lo p c00 o00
  refine wp_region_held_drew (S := (fun W => AWL W b lo p c00 o00)) (by kernel_rfl) ?_ (fun hHeld => ?_)
  · exact Hd.out.awl HId.out
  refine tkN (i := 0) (v := ?_) rfl ?_ ?_
  rotate_left
  · (intro w hSw; (try dsimp only at hSw); go_simp; try with_reducible rfl)
  try simp only [Act.put, sq1, sq2, sq3, sq4, sq5]
  refine wpAnyH_ready (rs := [1]) (by kernel_rfl) (by simp) ?_
  refine AllReadyH.cons rfl (fun K hK => ?_) ?_
  rotate_left
  · exact AllReadyH.nil
  go_simp
  refine hK.out _ _ ?_ (fun hHeld => ?_)
  · (try dsimp only); (first | (with_reducible assumption) | (with_reducible exact AW12.awl H15.out HI15.out) | (with_reducible exact AW12.awl H14.out HI14.out) | (with_reducible exact AW12.awl H13.out HI13.out) | (with_reducible exact AW12.awl H12.out HI12.out) | (with_reducible exact AW12.awl Hd.out HId.out))
  clear hK K
  try simp only [Act.put, sq1, sq2, sq3, sq4, sq5, sq6]
  refine tkN (i := 2) (v := ?_) rfl ?_ ?_
  rotate_left
  · (intro w hSw; (try dsimp only at hSw); go_simp; try with_reducible rfl)
  try simp only [Act.put, sq1, sq2, sq3, sq4, sq5, sq6]
  refine tkN (i := 3) (v := ?_) rfl ?_ ?_
  rotate_left
  · (intro w hSw; (try dsimp only at hSw); go_simp; try with_reducible rfl)
  try simp only [Act.put, sq1, sq2, sq3, sq4, sq5, sq6]
  refine tkN (i := 4) (v := ?_) rfl ?_ ?_
  rotate_left
  · (intro w hSw; (try dsimp only at hSw); go_simp; try with_reducible rfl)
  try simp only [Act.put, sq1, sq2, sq3, sq4, sq5, sq6]
  refine tkN (i := 5) (v := ?_) rfl ?_ ?_
  rotate_left
  · (intro w hSw; (try dsimp only at hSw); go_simp; try with_reducible rfl)
  try simp only [Act.put, sq1, sq2, sq3, sq4, sq5, sq6]
  refine tkN (i := 6) (v := ?_) rfl ?_ ?_
  rotate_left
  · (intro w hSw; (try dsimp only at hSw); go_simp; try with_reducible rfl)
  try simp only [Act.put, sq1, sq2, sq3, sq4, sq5, sq6]
  refine tkN (i := 7) (v := ?_) rfl ?_ ?_
  rotate_left
  · (intro w hSw; (try dsimp only at hSw); go_simp; try with_reducible rfl)
  try simp only [Act.put, sq1, sq2, sq3, sq4, sq5, sq6]
  refine tkN (i := 8) (v := ?_) rfl ?_ ?_
  rotate_left
  · (intro w hSw; (try dsimp only at hSw); go_simp; try with_reducible rfl)
  try simp only [Act.put, sq1, sq2, sq3, sq4, sq5, sq6]
  refine tkN (i := 9) (v := ?_) rfl ?_ ?_
  rotate_left
  · (intro w hSw; (try dsimp only at hSw); go_simp; try with_reducible rfl)
  try simp only [Act.put, sq1, sq2, sq3, sq4, sq5, sq6]
  refine tkN (i := 10) (v := ?_) rfl ?_ ?_
  rotate_left
  · (intro w hSw; (try dsimp only at hSw); go_simp; try with_reducible rfl)
  try simp only [Act.put, sq1, sq2, sq3, sq4, sq5, sq6]
  refine tkN (i := 11) (v := ?_) rfl ?_ ?_
  rotate_left
  · (intro w hSw; (try dsimp only at hSw); go_simp; try with_reducible rfl)
  try simp only [Act.put, sq1, sq2, sq3, sq4, sq5, sq6]
  refine tkN (i := 12) (v := ?_) rfl ?_ ?_
  rotate_left
  · (intro w hSw; (try dsimp only at hSw); go_simp; try with_reducible rfl)
  try simp only [Act.put, sq1, sq2, sq3, sq4, sq5, sq6]
  refine tkN (i := 13) (v := ?_) rfl ?_ ?_
  rotate_left
  · (intro w hSw; (try dsimp only at hSw); go_simp; try with_reducible rfl)
  try simp only [Act.put, sq1, sq2, sq3, sq4, sq5, sq6]
  refine tkN (i := 14) (v := ?_) rfl ?_ ?_
  rotate_left
  · (intro w hSw; (try dsimp only at hSw); go_simp; try with_reducible rfl)
  try simp only [Act.put, sq1, sq2, sq3, sq4, sq5, sq6]
  refine tkN (i := 15) (v := ?_) rfl ?_ ?_
  rotate_left
  · (intro w hSw; (try dsimp only at hSw); go_simp; try with_reducible rfl)
  try simp only [Act.put, sq1, sq2, sq3, sq4, sq5, sq6]
  refine tkN (i := 16) (v := ?_) rfl ?_ ?_
  rotate_left
  · (intro w hSw; (try dsimp only at hSw); go_simp; try with_reducible rfl)
  try simp only [Act.put, sq1, sq2, sq3, sq4, sq5, sq6]
  refine tkN (i := 17) (v := ?_) rfl ?_ ?_
  rotate_left
  · (intro w hSw; (try dsimp only at hSw); go_simp; try with_reducible rfl)
  try simp only [Act.put, sq1, sq2, sq3, sq4, sq5, sq6]
  refine tkN (i := 18) (v := ?_) rfl ?_ ?_
  rotate_left
  · (intro w hSw; (try dsimp only at hSw); go_simp; try with_reducible rfl)
  try simp only [Act.put, sq1, sq2, sq3, sq4, sq5, sq6]
  refine tkN (i := 19) (v := ?_) rfl ?_ ?_
  rotate_left
  · (intro w hSw; (try dsimp only at hSw); go_simp; try with_reducible rfl)
  try simp only [Act.put, sq1, sq2, sq3, sq4, sq5, sq6]
  refine tkN (i := 20) (v := ?_) rfl ?_ ?_
  rotate_left
  · (intro w hSw; (try dsimp only at hSw); go_simp; try with_reducible rfl)
  try simp only [Act.put, sq1, sq2, sq3, sq4, sq5, sq6]
  refine tkN (i := 21) (v := ?_) rfl ?_ ?_
  rotate_left
  · (intro w hSw; (try dsimp only at hSw); go_simp; try with_reducible rfl)
  try simp only [Act.put, sq1, sq2, sq3, sq4, sq5, sq6]
  refine tkN (i := 22) (v := ?_) rfl ?_ ?_
  rotate_left
  · (intro w hSw; (try dsimp only at hSw); go_simp; try with_reducible rfl)
  try simp only [Act.put, sq1, sq2, sq3, sq4, sq5, sq6]
  refine tkN (i := 23) (v := ?_) rfl ?_ ?_
  rotate_left
  · (intro w hSw; (try dsimp only at hSw); go_simp; try with_reducible rfl)
  try simp only [Act.put, sq1, sq2, sq3, sq4, sq5, sq6]
  refine tkN (i := 24) (v := ?_) rfl ?_ ?_
  rotate_left
  · (intro w hSw; (try dsimp only at hSw); go_simp; try with_reducible rfl)
  try simp only [Act.put, sq1, sq2, sq3, sq4, sq5, sq6]
  refine tkN (i := 25) (v := ?_) rfl ?_ ?_
  rotate_left
  · (intro w hSw; (try dsimp only at hSw); go_simp; try with_reducible rfl)
  try simp only [Act.put, sq1, sq2, sq3, sq4, sq5, sq6]
  refine tkN (i := 26) (v := ?_) rfl ?_ ?_
  rotate_left
  · (intro w hSw; (try dsimp only at hSw); go_simp; try with_reducible rfl)
  try simp only [Act.put, sq1, sq2, sq3, sq4, sq5, sq6]
  refine tkN (i := 27) (v := ?_) rfl ?_ ?_
  rotate_left
  · (intro w hSw; (try dsimp only at hSw); go_simp; try with_reducible rfl)
  try simp only [Act.put, sq1, sq2, sq3, sq4, sq5, sq6]
  refine tkN (i := 28) (v := ?_) rfl ?_ ?_
  rotate_left
  · (intro w hSw; (try dsimp only at hSw); go_simp; try with_reducible rfl)
  try simp only [Act.put, sq1, sq2, sq3, sq4, sq5, sq6]
  refine tkN (i := 29) (v := ?_) rfl ?_ ?_
  rotate_left
  · (intro w hSw; (try dsimp only at hSw); go_simp; try with_reducible rfl)
  try simp only [Act.put, sq1, sq2, sq3, sq4, sq5, sq6]
  refine tkN (i := 30) (v := ?_) rfl ?_ ?_
  rotate_left
  · (intro w hSw; (try dsimp only at hSw); go_simp; try with_reducible rfl)
  try simp only [Act.put, sq1, sq2, sq3, sq4, sq5, sq6]
  refine tkN (i := 31) (v := ?_) rfl ?_ ?_
  rotate_left
  · (intro w hSw; (try dsimp only at hSw); go_simp; try with_reducible rfl)
  try simp only [Act.put, sq1, sq2, sq3, sq4, sq5, sq6]
  refine tkN (i := 32) (v := ?_) rfl ?_ ?_
  rotate_left
  · (intro w hSw; (try dsimp only at hSw); go_simp; try with_reducible rfl)
  try simp only [Act.put, sq1, sq2, sq3, sq4, sq5, sq6]
  refine tkN (i := 33) (v := ?_) rfl ?_ ?_
  rotate_left
  · (intro w hSw; (try dsimp only at hSw); go_simp; try with_reducible rfl)
  try simp only [Act.put, sq1, sq2, sq3, sq4, sq5, sq6]
  refine wpAnyH_ready (rs := [34]) (by kernel_rfl) (by simp) ?_
  refine AllReadyH.cons rfl (fun K hK => ?_) ?_
  rotate_left
  · exact AllReadyH.nil
  go_simp
  (refine (vertex_yes _ _ _ _ _ R431a _).mono ?_; rintro e x3 ⟨rfl, hb3⟩; rw [vx1]; have H12 := Lib.hid (Hd.out.below hb3); have HI12 := Lib.hid (HId.out.below hb3))
  go_wp2_with fail
  refine hK.out _ _ ?_ (fun hHeld => ?_)
  · (try dsimp only); (first | (with_reducible assumption) | (with_reducible exact AW12.awl H15.out HI15.out) | (with_reducible exact AW12.awl H14.out HI14.out) | (with_reducible exact AW12.awl H13.out HI13.out) | (with_reducible exact AW12.awl H12.out HI12.out) | (with_reducible exact AW12.awl Hd.out HId.out))
  clear hK K
  try simp only [Act.put, sq1, sq2, sq3, sq4, sq5, sq6]
  refine wpAnyH_ready (rs := [35]) (by kernel_rfl) (by simp) ?_
  refine AllReadyH.cons rfl (fun K hK => ?_) ?_
  rotate_left
  · exact AllReadyH.nil
  go_simp
  (refine (H12.out.marked (v := 1) (r := false) (by decide) (by decide) (by omega) (by decide)).mono ?_; rintro e x4 ⟨rfl, h9, O9⟩; have H13 := Lib.hid h9; have HI13 := Lib.hid (H12.out.li HI12.out O9); clear h9 O9)
  go_wp2_with fail
  refine hK.out _ _ ?_ (fun hHeld => ?_)
  · (try dsimp only); (first | (with_reducible assumption) | (with_reducible exact AW12.awl H15.out HI15.out) | (with_reducible exact AW12.awl H14.out HI14.out) | (with_reducible exact AW12.awl H13.out HI13.out) | (with_reducible exact AW12.awl H12.out HI12.out) | (with_reducible exact AW12.awl Hd.out HId.out))
  clear hK K
  try simp only [Act.put, sq1, sq2, sq3, sq4, sq5, sq6]
  refine tkN (i := 36) (v := ?_) rfl ?_ ?_
  rotate_left
  · (intro w hSw; (try dsimp only at hSw); go_simp; try with_reducible rfl)
  try simp only [Act.put, sq1, sq2, sq3, sq4, sq5, sq6]
  refine tkN (i := 37) (v := ?_) rfl ?_ ?_
  rotate_left
  · (intro w hSw; (try dsimp only at hSw); go_simp; try with_reducible rfl)
  try simp only [Act.put, sq1, sq2, sq3, sq4, sq5, sq6]
  refine tkN (i := 38) (v := ?_) rfl ?_ ?_
  rotate_left
  · (intro w hSw; (try dsimp only at hSw); go_simp; try with_reducible rfl)
  try simp only [Act.put, sq1, sq2, sq3, sq4, sq5, sq6]
  refine tkN (i := 39) (v := ?_) rfl ?_ ?_
  rotate_left
  · (intro w hSw; (try dsimp only at hSw); go_simp; try with_reducible rfl)
  try simp only [Act.put, sq1, sq2, sq3, sq4, sq5, sq6]
  refine tkN (i := 40) (v := ?_) rfl ?_ ?_
  rotate_left
  · (intro w hSw; (try dsimp only at hSw); go_simp; try with_reducible rfl)
  try simp only [Act.put, sq1, sq2, sq3, sq4, sq5, sq6]
  refine tkN (i := 41) (v := ?_) rfl ?_ ?_
  rotate_left
  · (intro w hSw; (try dsimp only at hSw); go_simp; try with_reducible rfl)
  try simp only [Act.put, sq1, sq2, sq3, sq4, sq5, sq6]
  refine tkN (i := 42) (v := ?_) rfl ?_ ?_
  rotate_left
  · (intro w hSw; (try dsimp only at hSw); go_simp; try with_reducible rfl)
  try simp only [Act.put, sq1, sq2, sq3, sq4, sq5, sq6]
  refine wpAnyH_ready (rs := [43]) (by kernel_rfl) (by simp) ?_
  refine AllReadyH.cons rfl (fun K hK => ?_) ?_
  rotate_left
  · exact AllReadyH.nil
  go_simp
  (refine (vertex_yes _ _ _ _ _ R431a _).mono ?_; rintro e x5 ⟨rfl, hb5⟩; rw [vx3]; have H14 := Lib.hid (H13.out.below hb5); have HI14 := Lib.hid (HI13.out.below hb5))
  go_wp2_with fail
  refine hK.out _ _ ?_ (fun hHeld => ?_)
  · (try dsimp only); (first | (with_reducible assumption) | (with_reducible exact AW12.awl H15.out HI15.out) | (with_reducible exact AW12.awl H14.out HI14.out) | (with_reducible exact AW12.awl H13.out HI13.out) | (with_reducible exact AW12.awl H12.out HI12.out) | (with_reducible exact AW12.awl Hd.out HId.out))
  clear hK K
  try simp only [Act.put, sq1, sq2, sq3, sq4, sq5, sq6]
  refine wpAnyH_ready (rs := [44]) (by kernel_rfl) (by simp) ?_
  refine AllReadyH.cons rfl (fun K hK => ?_) ?_
  rotate_left
  · exact AllReadyH.nil
  go_simp
  (refine (H14.out.marked (v := 3) (r := true) (by decide) (by decide) (by omega) (by decide)).mono ?_; rintro e x6 ⟨rfl, h9, O9⟩; have H15 := Lib.hid h9; have HI15 := Lib.hid (H14.out.li HI14.out O9); clear h9 O9)
  go_wp2_with fail
  refine hK.out _ _ ?_ (fun hHeld => ?_)
  · (try dsimp only); (first | (with_reducible assumption) | (with_reducible exact AW12.awl H15.out HI15.out) | (with_reducible exact AW12.awl H14.out HI14.out) | (with_reducible exact AW12.awl H13.out HI13.out) | (with_reducible exact AW12.awl H12.out HI12.out) | (with_reducible exact AW12.awl Hd.out HId.out))
  clear hK K
  try simp only [Act.put, sq1, sq2, sq3, sq4, sq5, sq6]
  refine tkN (i := 45) (v := ?_) rfl ?_ ?_
  rotate_left
  · (intro w hSw; (try dsimp only at hSw); go_simp; try with_reducible rfl)
  try simp only [Act.put, sq1, sq2, sq3, sq4, sq5, sq6]
  refine tkN (i := 46) (v := ?_) rfl ?_ ?_
  rotate_left
  · (intro w hSw; (try dsimp only at hSw); go_simp; try with_reducible rfl)
  try simp only [Act.put, sq1, sq2, sq3, sq4, sq5, sq6]
  refine wpAnyH_done (by kernel_rfl) ?_ _
  clear hrule d0 d1 clt c0 c1 c2 c3 c4 c5 c6 c7 c8 c9 l0 l1 l2 blt llt
  have HE := Lib.hid (Only.below HP.out.1 H15.out.o HP.out.1.size HP.out.2.1 HP.out.2.2)
  go_wp2_with fail
  go_ret
  exact ⟨rfl, HE.out⟩
end Go.Proofs.Ytaooglagddphnaa
