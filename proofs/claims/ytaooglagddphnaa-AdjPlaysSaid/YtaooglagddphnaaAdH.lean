/- mark, lists. -/
import Derived.Test.YtaooglagddphnaaAdG
namespace Go.Proofs.Ytaooglagddphnaa
open Go.RowKit

set_option maxRecDepth 100000

/-- A vertex's node. -/
def ndA (V : Int) (v l : Nat) : Nat := (vertexF V (l : Int) (v : Int)).toNat
/-- What marks are, once one is right. -/
def mkQ (mk : Nat → Nat) (x : Nat) (on : Bool) : Nat → Nat := if hasB (mk x) 0 = on then mk else mkSet mk x 0 on
section
variable {V S T : Int} {w w' w0 : World} {p gb cap m m' k x y z h i s d u v l v2 l2 : Nat} {t : Bool} {f f' : Nat → Int} {mk : Nat → Nat} {ts : List Tp} {ls : List E1}
theorem nd_int (hR : Rt V S T) (hv : (v : Int) < V) (hl : (l : Int) < lv V) : vertexF V (l : Int) (v : Int) = ((ndA V v l : Nat) : Int) ∧ ((ndA V v l : Nat) : Int) = l * V + v + 1 ∧ 1 ≤ ndA V v l ∧ ndA V v l ≤ nN V S := by
  have h1 : pl (l : Int) (lv V) (v : Int) V = (l : Int) * V + v := pl_yes (by omega) hl (by omega) hv
  have h2 : 0 ≤ (l : Int) * V := Int.mul_nonneg (by omega) (by omega)
  have h3 : (l : Int) * V ≤ (lv V - 1) * V := Int.mul_le_mul_of_nonneg_right (by omega) (by omega)
  have h4 : (lv V - 1) * V = vn V - V := by unfold vn; rw [Int.sub_mul]; omega
  have h5 := nN_int hR
  have h6 : nd V S = vn V + S * sn V := rfl
  have h7 := (sizes hR).ss1
  have h8 : vertexF V (l : Int) (v : Int) = (l : Int) * V + v + 1 := by unfold vertexF; rw [h1]
  unfold ndA
  rw [h8]
  refine ⟨?_, ?_, ?_, ?_⟩ <;> omega
theorem nd_inj (hR : Rt V S T) (hv : (v : Int) < V) (hl : (l : Int) < lv V) (hv2 : (v2 : Int) < V) (hl2 : (l2 : Int) < lv V) (e : ndA V v l = ndA V v2 l2) : v = v2 ∧ l = l2 := by
  have h1 := (nd_int hR hv hl).2.1
  have h2 := (nd_int hR hv2 hl2).2.1
  have e2 : (l : Int) * V + v = (l2 : Int) * V + v2 := by omega
  have a1 : ((l : Int) * V + v) / V = l := by rw [Int.add_comm, Int.add_mul_ediv_right _ _ (by omega), Int.ediv_eq_zero_of_lt (by omega) hv]; omega
  have a2 : ((l2 : Int) * V + v2) / V = l2 := by rw [Int.add_comm, Int.add_mul_ediv_right _ _ (by omega), Int.ediv_eq_zero_of_lt (by omega) hv2]; omega
  have hl3 : (l : Int) = l2 := by rw [← a1, ← a2, e2]
  have : l = l2 := by omega
  subst this
  exact ⟨by omega, rfl⟩
theorem mark_zt (A : TA w V S T p gb cap m f mk ts) (hv : (v : Int) < V) (hl : (l : Int) < lv V) (hh : f (hC V S T v l) = 0) (hb : hasB (mk (ndA V v l)) 0 = true) (hm : m ≤ 99900000) :
    Calls Try.prog 93 #[vA V S T p, vLs v l] w (Dta V S T p gb cap (m + 9 + 7 * nN V S) f (mkSet mk (ndA V v l) 0 false) ts (.tuple #[]) w) := by
  have H := Lib.hid (AY.new A v l)
  have HR := Lib.hid A.hR
  have hE := (nd_int A.hR hv hl).1
  have hn := (nd_int A.hR hv hl).2.2
  have HH := Lib.hid hh
  have HZ : Hid (nxA V S T v l 0 = hC V S T v l) := Lib.hid (if_pos rfl)
  clear A hh
  generalize ndA V v l = k at hE hn hb ⊢
  have HE := Lib.hid hE
  have HN := Lib.hid hn
  have HB := Lib.hid hb

  clear hE hn hb
  go_enter Try.func93, Try.ntmps93
  go_wp2_with fail
  generalize ((w.alloc (.cells #[.int .i64 V, .int .i64 S, .int .i64 T, .iface 84 (pmV p), .int .i64 1, .int .i64 0, .int .i64 V, .int .i64 S, .int .i64 T, .iface 84 (pmV p)] 38)).alloc (.cells #[.int .i64 (v : Int), .int .i64 (l : Int)] 105)) = w1 at H ⊢
  generalize hB : w.heap.size = B at H ⊢
  refine (vertex_yes V S T (l : Int) (v : Int) HR.out _).mono ?_; rintro e w2 ⟨rfl, hb2⟩; rw [HE.out]
  have H2 := Lib.hid (H.out.below hb2)
  clear H hb2
  obtain ⟨c0, c1, c2, c3, c4, c5, c6, c7, c8, c9⟩ := H2.out.x.e.cells
  have blt := H2.out.x.e.lt
  obtain ⟨d0, d1⟩ := H2.out.l.cells
  have dlt := H2.out.l.lt
  go_wp2_with fail
  refine (behind_any (x := 0) H2.out.x.m hv hl (by have := HR.out.s1; omega) (by omega) rfl).mono ?_; rintro e w3 ⟨rfl, A3, O3⟩; rw [HZ.out, HH.out]
  have H3 := Lib.hid (H2.out.next A3 O3)
  clear H2 A3 O3 c0 c1 c2 c3 c4 c5 c6 c7 c8 c9 blt d0 d1 dlt
  obtain ⟨c0, c1, c2, c3, c4, c5, c6, c7, c8, c9⟩ := H3.out.x.e.cells
  have blt := H3.out.x.e.lt
  go_wp2_with fail
  refine (ta_marked (x := k) H3.out.x.m (by have := HN.out; omega) HN.out.2 (k := 0) (by decide) (by omega) rfl rfl).mono ?_; rintro e w4 ⟨rfl, A4, O4⟩; rw [HB.out]
  have H4 := Lib.hid (H3.out.next A4 O4)
  clear H3 A4 O4 c0 c1 c2 c3 c4 c5 c6 c7 c8 c9 blt
  obtain ⟨c0, c1, c2, c3, c4, c5, c6, c7, c8, c9⟩ := H4.out.x.e.cells
  have blt := H4.out.x.e.lt
  go_wp2_with fail
  refine (ta_mark (x := k) H4.out.x.m (by have := HN.out; omega) HN.out.2 (by decide) (by omega) rfl rfl).mono ?_; rintro e w5 ⟨rfl, A5, O5⟩
  have H5 := Lib.hid (H4.out.next A5 O5)
  clear A5 O5 c0 c1 c2 c3 c4 c5 c6 c7 c8 c9 blt
  go_wp2_with fail
  go_end0
  exact ⟨rfl, H5.out.x.m.more (by omega), H5.out.x.o⟩
theorem mark_zs (A : TA w V S T p gb cap m f mk ts) (hv : (v : Int) < V) (hl : (l : Int) < lv V) (hh : f (hC V S T v l) = 0) (hb : hasB (mk (ndA V v l)) 0 = false) (hm : m ≤ 99900000) :
    Calls Try.prog 93 #[vA V S T p, vLs v l] w (Dta V S T p gb cap (m + 9 + 7 * nN V S) f mk ts (.tuple #[]) w) := by
  have H := Lib.hid (AY.new A v l)
  have HR := Lib.hid A.hR
  have hE := (nd_int A.hR hv hl).1
  have hn := (nd_int A.hR hv hl).2.2
  have HH := Lib.hid hh
  have HZ : Hid (nxA V S T v l 0 = hC V S T v l) := Lib.hid (if_pos rfl)
  clear A hh
  generalize ndA V v l = k at hE hn hb ⊢
  have HE := Lib.hid hE
  have HN := Lib.hid hn
  have HB := Lib.hid hb

  clear hE hn hb
  go_enter Try.func93, Try.ntmps93
  go_wp2_with fail
  generalize ((w.alloc (.cells #[.int .i64 V, .int .i64 S, .int .i64 T, .iface 84 (pmV p), .int .i64 1, .int .i64 0, .int .i64 V, .int .i64 S, .int .i64 T, .iface 84 (pmV p)] 38)).alloc (.cells #[.int .i64 (v : Int), .int .i64 (l : Int)] 105)) = w1 at H ⊢
  generalize hB : w.heap.size = B at H ⊢
  refine (vertex_yes V S T (l : Int) (v : Int) HR.out _).mono ?_; rintro e w2 ⟨rfl, hb2⟩; rw [HE.out]
  have H2 := Lib.hid (H.out.below hb2)
  clear H hb2
  obtain ⟨c0, c1, c2, c3, c4, c5, c6, c7, c8, c9⟩ := H2.out.x.e.cells
  have blt := H2.out.x.e.lt
  obtain ⟨d0, d1⟩ := H2.out.l.cells
  have dlt := H2.out.l.lt
  go_wp2_with fail
  refine (behind_any (x := 0) H2.out.x.m hv hl (by have := HR.out.s1; omega) (by omega) rfl).mono ?_; rintro e w3 ⟨rfl, A3, O3⟩; rw [HZ.out, HH.out]
  have H3 := Lib.hid (H2.out.next A3 O3)
  clear H2 A3 O3 c0 c1 c2 c3 c4 c5 c6 c7 c8 c9 blt d0 d1 dlt
  obtain ⟨c0, c1, c2, c3, c4, c5, c6, c7, c8, c9⟩ := H3.out.x.e.cells
  have blt := H3.out.x.e.lt
  go_wp2_with fail
  refine (ta_marked (x := k) H3.out.x.m (by have := HN.out; omega) HN.out.2 (k := 0) (by decide) (by omega) rfl rfl).mono ?_; rintro e w4 ⟨rfl, A4, O4⟩; rw [HB.out]
  have H4 := Lib.hid (H3.out.next A4 O4)
  clear H3 A4 O4 c0 c1 c2 c3 c4 c5 c6 c7 c8 c9 blt
  obtain ⟨c0, c1, c2, c3, c4, c5, c6, c7, c8, c9⟩ := H4.out.x.e.cells
  have blt := H4.out.x.e.lt
  go_wp2_with fail
  go_end0
  exact ⟨rfl, H4.out.x.m.more (by omega), H4.out.x.o⟩
theorem mark_nt (A : TA w V S T p gb cap m f mk ts) (hv : (v : Int) < V) (hl : (l : Int) < lv V) (hh : f (hC V S T v l) = (h : Int)) (h0 : h ≠ 0) (hb : hasB (mk (ndA V v l)) 0 = false) (hm : m ≤ 99900000) :
    Calls Try.prog 93 #[vA V S T p, vLs v l] w (Dta V S T p gb cap (m + 9 + 7 * nN V S) f (mkSet mk (ndA V v l) 0 true) ts (.tuple #[]) w) := by
  have H := Lib.hid (AY.new A v l)
  have HR := Lib.hid A.hR
  have hE := (nd_int A.hR hv hl).1
  have hn := (nd_int A.hR hv hl).2.2
  have HH := Lib.hid hh
  have HZ : Hid (nxA V S T v l 0 = hC V S T v l) := Lib.hid (if_pos rfl)
  have h1 : ¬ (h : Int) = 0 := by omega
  have h2 : ((h : Int) != 0) = true := bne_iff_ne.2 h1
  clear A hh
  generalize ndA V v l = k at hE hn hb ⊢
  have HE := Lib.hid hE
  have HN := Lib.hid hn
  have HB := Lib.hid hb

  clear hE hn hb
  go_enter Try.func93, Try.ntmps93
  go_wp2_with fail
  generalize ((w.alloc (.cells #[.int .i64 V, .int .i64 S, .int .i64 T, .iface 84 (pmV p), .int .i64 1, .int .i64 0, .int .i64 V, .int .i64 S, .int .i64 T, .iface 84 (pmV p)] 38)).alloc (.cells #[.int .i64 (v : Int), .int .i64 (l : Int)] 105)) = w1 at H ⊢
  generalize hB : w.heap.size = B at H ⊢
  refine (vertex_yes V S T (l : Int) (v : Int) HR.out _).mono ?_; rintro e w2 ⟨rfl, hb2⟩; rw [HE.out]
  have H2 := Lib.hid (H.out.below hb2)
  clear H hb2
  obtain ⟨c0, c1, c2, c3, c4, c5, c6, c7, c8, c9⟩ := H2.out.x.e.cells
  have blt := H2.out.x.e.lt
  obtain ⟨d0, d1⟩ := H2.out.l.cells
  have dlt := H2.out.l.lt
  go_wp2_with fail
  refine (behind_any (x := 0) H2.out.x.m hv hl (by have := HR.out.s1; omega) (by omega) rfl).mono ?_; rintro e w3 ⟨rfl, A3, O3⟩; rw [HZ.out, HH.out]
  have H3 := Lib.hid (H2.out.next A3 O3)
  clear H2 A3 O3 c0 c1 c2 c3 c4 c5 c6 c7 c8 c9 blt d0 d1 dlt
  obtain ⟨c0, c1, c2, c3, c4, c5, c6, c7, c8, c9⟩ := H3.out.x.e.cells
  have blt := H3.out.x.e.lt
  go_wp2_with fail
  refine (ta_marked (x := k) H3.out.x.m (by have := HN.out; omega) HN.out.2 (k := 0) (by decide) (by omega) rfl rfl).mono ?_; rintro e w4 ⟨rfl, A4, O4⟩; rw [HB.out]
  have H4 := Lib.hid (H3.out.next A4 O4)
  clear H3 A4 O4 c0 c1 c2 c3 c4 c5 c6 c7 c8 c9 blt
  obtain ⟨c0, c1, c2, c3, c4, c5, c6, c7, c8, c9⟩ := H4.out.x.e.cells
  have blt := H4.out.x.e.lt
  go_wp2_with fail
  refine (ta_mark (x := k) H4.out.x.m (by have := HN.out; omega) HN.out.2 (by decide) (by omega) rfl rfl).mono ?_; rintro e w5 ⟨rfl, A5, O5⟩
  have H5 := Lib.hid (H4.out.next A5 O5)
  clear A5 O5 c0 c1 c2 c3 c4 c5 c6 c7 c8 c9 blt
  go_wp2_with fail
  go_end0
  exact ⟨rfl, H5.out.x.m.more (by omega), H5.out.x.o⟩
theorem mark_ns (A : TA w V S T p gb cap m f mk ts) (hv : (v : Int) < V) (hl : (l : Int) < lv V) (hh : f (hC V S T v l) = (h : Int)) (h0 : h ≠ 0) (hb : hasB (mk (ndA V v l)) 0 = true) (hm : m ≤ 99900000) :
    Calls Try.prog 93 #[vA V S T p, vLs v l] w (Dta V S T p gb cap (m + 9 + 7 * nN V S) f mk ts (.tuple #[]) w) := by
  have H := Lib.hid (AY.new A v l)
  have HR := Lib.hid A.hR
  have hE := (nd_int A.hR hv hl).1
  have hn := (nd_int A.hR hv hl).2.2
  have HH := Lib.hid hh
  have HZ : Hid (nxA V S T v l 0 = hC V S T v l) := Lib.hid (if_pos rfl)
  have h1 : ¬ (h : Int) = 0 := by omega
  have h2 : ((h : Int) != 0) = true := bne_iff_ne.2 h1
  clear A hh
  generalize ndA V v l = k at hE hn hb ⊢
  have HE := Lib.hid hE
  have HN := Lib.hid hn
  have HB := Lib.hid hb

  clear hE hn hb
  go_enter Try.func93, Try.ntmps93
  go_wp2_with fail
  generalize ((w.alloc (.cells #[.int .i64 V, .int .i64 S, .int .i64 T, .iface 84 (pmV p), .int .i64 1, .int .i64 0, .int .i64 V, .int .i64 S, .int .i64 T, .iface 84 (pmV p)] 38)).alloc (.cells #[.int .i64 (v : Int), .int .i64 (l : Int)] 105)) = w1 at H ⊢
  generalize hB : w.heap.size = B at H ⊢
  refine (vertex_yes V S T (l : Int) (v : Int) HR.out _).mono ?_; rintro e w2 ⟨rfl, hb2⟩; rw [HE.out]
  have H2 := Lib.hid (H.out.below hb2)
  clear H hb2
  obtain ⟨c0, c1, c2, c3, c4, c5, c6, c7, c8, c9⟩ := H2.out.x.e.cells
  have blt := H2.out.x.e.lt
  obtain ⟨d0, d1⟩ := H2.out.l.cells
  have dlt := H2.out.l.lt
  go_wp2_with fail
  refine (behind_any (x := 0) H2.out.x.m hv hl (by have := HR.out.s1; omega) (by omega) rfl).mono ?_; rintro e w3 ⟨rfl, A3, O3⟩; rw [HZ.out, HH.out]
  have H3 := Lib.hid (H2.out.next A3 O3)
  clear H2 A3 O3 c0 c1 c2 c3 c4 c5 c6 c7 c8 c9 blt d0 d1 dlt
  obtain ⟨c0, c1, c2, c3, c4, c5, c6, c7, c8, c9⟩ := H3.out.x.e.cells
  have blt := H3.out.x.e.lt
  go_wp2_with fail
  refine (ta_marked (x := k) H3.out.x.m (by have := HN.out; omega) HN.out.2 (k := 0) (by decide) (by omega) rfl rfl).mono ?_; rintro e w4 ⟨rfl, A4, O4⟩; rw [HB.out]
  have H4 := Lib.hid (H3.out.next A4 O4)
  clear H3 A4 O4 c0 c1 c2 c3 c4 c5 c6 c7 c8 c9 blt
  obtain ⟨c0, c1, c2, c3, c4, c5, c6, c7, c8, c9⟩ := H4.out.x.e.cells
  have blt := H4.out.x.e.lt
  go_wp2_with fail
  go_end0
  exact ⟨rfl, H4.out.x.m.more (by omega), H4.out.x.o⟩
theorem mark_any (A : TA w V S T p gb cap m f mk ts) (hv : (v : Int) < V) (hl : (l : Int) < lv V) (hh : f (hC V S T v l) = (h : Int)) (hm : m ≤ 99900000) :
    Calls Try.prog 93 #[vA V S T p, vLs v l] w (Dta V S T p gb cap (m + 9 + 7 * nN V S) f (mkQ mk (ndA V v l) (decide (h ≠ 0))) ts (.tuple #[]) w) := by
  unfold mkQ
  by_cases h0 : h = 0
  · subst h0
    cases e : hasB (mk (ndA V v l)) 0
    · exact mark_zs A hv hl hh e hm
    · exact mark_zt A hv hl hh e hm
  · rw [decide_eq_true (p := h ≠ 0) h0]
    cases e : hasB (mk (ndA V v l)) 0
    · exact mark_nt A hv hl hh h0 e hm
    · exact mark_ns A hv hl hh h0 e hm
theorem lists_any (A : TA w V S T p gb cap m f mk ts) (huv : u < v) (hv : (v : Int) < V) (hs : (s : Int) < S) (hl : (l : Int) < lv V) (h1 : f (sC S T s 1) = nV u v) (h2 : f (sC S T s 2) = (l : Int)) (hm : m ≤ 99900000) :
    Calls Try.prog 89 #[vA V S T p, .int .i64 (s : Int)] w fun e w' => ∃ r, e = .returned (.slice (some ⟨r, 0, none⟩) 2 2) ∧ Blk w' r 105 #[.int .i64 (u : Int), .int .i64 (l : Int), .int .i64 (v : Int), .int .i64 (l : Int)] ∧ w.heap.size ≤ r ∧ TA w' V S T p gb cap (m + 2) f mk ts ∧ Only p gb w w' := by
  have H := Lib.hid (AX.new A)
  have HR := Lib.hid A.hR
  have H1 : Hid (slotF S T (s : Int) 1 = ((sC S T s 1 : Nat) : Int)) := Lib.hid (sC_int A.hR hs (k := 1) (by decide))
  have H2 : Hid (slotF S T (s : Int) 2 = ((sC S T s 2 : Nat) : Int)) := Lib.hid (sC_int A.hR hs (k := 2) (by decide))
  have HL1 := Lib.hid (sC_o5 (V := V) (T := T) A.hR hs (k := 1) (by decide))
  have HL2 := Lib.hid (sC_o5 (V := V) (T := T) A.hR hs (k := 2) (by decide))
  have HE := Lib.hid (eC_int A.hR (u := u) (v := v) (by omega) hv (by omega))
  have HD9 := Lib.hid (head_int A.hR (v := u) (l := l) (by omega) hl).1
  have e0 : (0 : Int) ≤ ((eC V S T u v : Nat) : Int) := Int.natCast_nonneg _
  have d0 : (0 : Int) ≤ ((hC V S T u l : Nat) : Int) := Int.natCast_nonneg _
  generalize eC V S T u v = ec at HE e0
  generalize hC V S T u l = hc at HD9 d0
  have u0 : (0 : Int) ≤ (u : Int) := Int.natCast_nonneg _
  have v0 : (0 : Int) ≤ (v : Int) := Int.natCast_nonneg _
  have l0 : (0 : Int) ≤ (l : Int) := Int.natCast_nonneg _
  have u16 : (u : Int) < 16 := by have := A.hR.v2; omega
  have v16 : (v : Int) < 16 := by have := A.hR.v2; omega
  have l5 : (l : Int) < 5 := by have := (lv_bd V).2; omega
  have wl : IntKind.i64.wrap (l : Int) = (l : Int) := IntWalk.i64_in _ (by omega)
  obtain ⟨n, hn⟩ : ∃ n, u * 256 + v = n := ⟨_, rfl⟩
  have HN : Hid (f (sC S T s 1) = ((n : Nat) : Int)) := Lib.hid (by rw [h1, ← hn]; rfl)
  have q1 : ((n : Nat) : Int) / 256 = (u : Int) := by omega
  have q2 : bits .and .u64 ((n : Nat) : Int) 255 = (v : Int) := by rw [and_255 _ (by omega) (by omega)]; omega
  have HF2 := Lib.hid h2
  clear A hn h1 h2
  go_enter Try.func89, Try.ntmps89
  go_wp2_with fail
  generalize (w.alloc (.cells #[.int .i64 V, .int .i64 S, .int .i64 T, .iface 84 (pmV p), .int .i64 1, .int .i64 0, .int .i64 V, .int .i64 S, .int .i64 T, .iface 84 (pmV p)] 38)) = w1 at H ⊢
  have hr9 : Hid (w.heap.size ≤ w.heap.size) := Lib.hid (Nat.le_refl _)
  generalize hB : w.heap.size = B at H hr9 ⊢
  have HD := Lib.hid H.out.drew
  have hrule := AjB.rule B V S T p
  go_region_held3 (fun W => AjB W B V S T p) (first | (with_reducible assumption) | (with_reducible exact H6.out.e) | (with_reducible exact H5.out.e) | (with_reducible exact H4.out.e) | (with_reducible exact H3.out.e) | (with_reducible exact HD.out.e))
    (first
      | (go_at_call 86; ((with_reducible refine (ends_yes V S T (s : Int) HR.out _).mono ?_); rintro e w2 ⟨rfl, hb2⟩; rw [H1.out]; have H3 := Lib.hid (HD.out.below hb2)))
      | (go_at_call 104; ((with_reducible refine (aload H3.out.m HL1.out (by omega) rfl).mono ?_); rintro e w3 ⟨rfl, A3, O3⟩; rw [HN.out]; have H4 := Lib.hid (H3.out.next A3 O3)))
      | (go_at_call 87; ((with_reducible refine (level_yes V S T (s : Int) HR.out _).mono ?_); rintro e w2 ⟨rfl, hb4⟩; rw [H2.out]; have H5 := Lib.hid (H4.out.below hb4)))
      | (go_at_call 104; ((with_reducible refine (aload H5.out.m HL2.out (by omega) rfl).mono ?_); rintro e w3 ⟨rfl, A5, O5⟩; rw [HF2.out]; have H6 := Lib.hid (H5.out.next A5 O5)))
      | fail)
  clear hrule A3 O3 HD H3 H4 H5 hb2 hb4 A5 O5
  obtain ⟨c0, c1, c2, c3, c4, c5, c6, c7, c8, c9⟩ := H6.out.e.cells
  have blt := H6.out.e.lt
  go_wp2_with fail
  refine (edge_yes V S T (u : Int) (v : Int) HR.out _).mono ?_; rintro e w2 ⟨rfl, hb2⟩; rw [HE.out]
  have H7 := Lib.hid (H6.out.below hb2)
  clear H6 hb2 c0 c1 c2 c3 c4 c5 c6 c7 c8 c9 blt
  obtain ⟨c0, c1, c2, c3, c4, c5, c6, c7, c8, c9⟩ := H7.out.e.cells
  have blt := H7.out.e.lt
  go_wp2_with fail
  refine (head_yes V S T (u : Int) (l : Int) HR.out _).mono ?_; rintro e w3 ⟨rfl, hb3⟩; rw [HD9.out]
  have H8 := Lib.hid (H7.out.below hb3)
  clear H7 hb3 c0 c1 c2 c3 c4 c5 c6 c7 c8 c9 blt
  go_wp2_with fail
  go_ret
  refine ⟨_, rfl, Blk.new _ _ _, ?_, H8.out.m.alloc _, H8.out.o.alloc _⟩
  have := H8.out.o.size
  exact this
end
end Go.Proofs.Ytaooglagddphnaa
