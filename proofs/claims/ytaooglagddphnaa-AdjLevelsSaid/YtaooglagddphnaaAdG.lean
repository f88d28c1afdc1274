/- has, join, slot, mark. -/
import Derived.Test.YtaooglagddphnaaAdF
namespace Go.Proofs.Ytaooglagddphnaa
open Go.RowKit

set_option maxRecDepth 100000

/-- What join stores. -/
def joinF (V S T : Int) (f : Nat → Int) (v l x y : Nat) : Nat → Int := if y = 0 then upd f (nxA V S T v l x) 0 else upd (upd f (nxA V S T v l x) (y : Int)) (pvC S T y) (x : Int)
section
variable {V S T : Int} {w w' w0 : World} {p gb cap m m' k x y z i s d u v l : Nat} {t : Bool} {f f' : Nat → Int} {mk : Nat → Nat} {ts : List Tp} {ls : List E1}
theorem join_nil (A : TA w V S T p gb cap m f mk ts) (hv : (v : Int) < V) (hl : (l : Int) < lv V) (h2 : (x : Int) ≤ 2 * S) (hm : m ≤ 99900000) :
    Calls Try.prog 92 #[vA V S T p, vLs v l, .int .u64 (x : Int), .int .u64 0] w (Dta V S T p gb cap (m + 2) (joinF V S T f v l x 0) mk ts (.tuple #[]) w) := by
  have H := Lib.hid (AY.new A v l)
  have HR := Lib.hid A.hR
  have HI := Lib.hid (nxA_o5 A.hR hv hl h2)
  have x0 : (0 : Int) ≤ (x : Int) := Int.natCast_nonneg _
  have x96 : (x : Int) ≤ 96 := by have := A.hR.s2; omega
  have hE : slotF S T (-1) (sideF 5 0) = -1 := if_neg (by omega)
  have HE := Lib.hid hE
  clear A hE
  generalize hk : nxA V S T v l x = k at HI
  have HK := Lib.hid hk
  clear hk
  go_enter Try.func92, Try.ntmps92
  go_wp2_with fail
  generalize ((w.alloc (.cells #[.int .i64 V, .int .i64 S, .int .i64 T, .iface 84 (pmV p), .int .i64 1, .int .i64 0, .int .i64 V, .int .i64 S, .int .i64 T, .iface 84 (pmV p)] 38)).alloc (.cells #[.int .i64 (v : Int), .int .i64 (l : Int)] 105)) = w1 at H ⊢
  generalize hB : w.heap.size = B at H ⊢
  have HD := Lib.hid H.out.drew
  have hrule := SA2.rule B (B + 1) v l V S T p
  go_region_held3 (fun W => SA2 W B (B + 1) v l V S T p) (first | (with_reducible assumption) | (with_reducible exact H3.out.sa) | (with_reducible exact H2.out.sa) | (with_reducible exact HD.out.sa))
    (first
      | (go_at_call 105; ((with_reducible refine (next_any HR.out hv hl h2 _).mono ?_); rintro e w2 ⟨rfl, hb2⟩; rw [HK.out]; have H2 := Lib.hid (HD.out.below hb2)))
      | (go_at_call 122; ((with_reducible refine (astore (x := 0) H2.out.x.m HI.out (by omega) (by omega) (by omega) rfl).mono ?_); rintro e w3 ⟨rfl, A3, O3⟩; have H3 := Lib.hid (H2.out.next A3 O3)))
      | fail)
  clear hrule A3 O3 HD H2 hb2
  have HD := Lib.hid H3.out.drew
  obtain ⟨c0, c1, c2, c3, c4, c5, c6, c7, c8, c9⟩ := H3.out.x.e.cells
  have blt := H3.out.x.e.lt
  go_wp2_with fail
  have hrule := SA2.rule B (B + 1) v l V S T p
  go_region_held3 (fun W => SA2 W B (B + 1) v l V S T p) (first | (with_reducible assumption) | (with_reducible exact H6.out.sa) | (with_reducible exact H5.out.sa) | (with_reducible exact H4.out.sa) | (with_reducible exact HD.out.sa))
    (first
      | (go_at_call 60; ((with_reducible refine (at_zero _).mono ?_); rintro e w2 ⟨rfl, hb2⟩; have H4 := Lib.hid (HD.out.below hb2)))
      | (go_at_call 17; ((with_reducible refine (prev_yes V S T (-1) 0 HR.out _).mono ?_); rintro e w3 ⟨rfl, hb3⟩; rw [HE.out]; have H5 := Lib.hid (H4.out.below hb3)))
      | (go_at_call 122; ((with_reducible refine (astore_no (x := (x : Int)) _).mono ?_); rintro e w4 ⟨rfl, hb4⟩; have H6 := Lib.hid (H5.out.below hb4)))
      | fail)
  go_wp2_with fail
  go_end0
  exact ⟨rfl, by unfold joinF; rw [if_pos rfl, HK.out]; exact H6.out.x.m.more (by omega), H6.out.x.o⟩
theorem join_some (A : TA w V S T p gb cap m f mk ts) (hv : (v : Int) < V) (hl : (l : Int) < lv V) (h2 : (x : Int) ≤ 2 * S) (hy : 1 ≤ y) (hyS : (y : Int) ≤ 2 * S) (hm : m ≤ 99900000) :
    Calls Try.prog 92 #[vA V S T p, vLs v l, .int .u64 (x : Int), .int .u64 (y : Int)] w (Dta V S T p gb cap (m + 2) (joinF V S T f v l x y) mk ts (.tuple #[]) w) := by
  have H := Lib.hid (AY.new A v l)
  have HR := Lib.hid A.hR
  have HI := Lib.hid (nxA_o5 A.hR hv hl h2)
  have x0 : (0 : Int) ≤ (x : Int) := Int.natCast_nonneg _
  have x96 : (x : Int) ≤ 96 := by have := A.hR.s2; omega
  have hE := pv_int A.hR hy hyS
  have y96 : y ≤ 96 := by have := A.hR.s2; omega
  have y0 : (0 : Int) ≤ (y : Int) := Int.natCast_nonneg _
  obtain ⟨q, hq⟩ : ∃ q, (y - 1) / 2 = q := ⟨_, rfl⟩
  obtain ⟨r, hr⟩ : ∃ r, (y - 1) % 2 = r := ⟨_, rfl⟩
  rw [hq, hr] at hE
  have HL := Lib.hid (pv_o5 A.hR hy hyS)
  generalize hj : pvC S T y = j at HL hE
  have HJ := Lib.hid hj
  have HQ := Lib.hid (And.intro hq hr)
  clear hj hq hr
  have HE := Lib.hid hE
  clear A hE
  generalize hk : nxA V S T v l x = k at HI
  have HK := Lib.hid hk
  clear hk
  go_enter Try.func92, Try.ntmps92
  go_wp2_with fail
  generalize ((w.alloc (.cells #[.int .i64 V, .int .i64 S, .int .i64 T, .iface 84 (pmV p), .int .i64 1, .int .i64 0, .int .i64 V, .int .i64 S, .int .i64 T, .iface 84 (pmV p)] 38)).alloc (.cells #[.int .i64 (v : Int), .int .i64 (l : Int)] 105)) = w1 at H ⊢
  generalize hB : w.heap.size = B at H ⊢
  have HD := Lib.hid H.out.drew
  have hrule := SA2.rule B (B + 1) v l V S T p
  go_region_held3 (fun W => SA2 W B (B + 1) v l V S T p) (first | (with_reducible assumption) | (with_reducible exact H3.out.sa) | (with_reducible exact H2.out.sa) | (with_reducible exact HD.out.sa))
    (first
      | (go_at_call 105; ((with_reducible refine (next_any HR.out hv hl h2 _).mono ?_); rintro e w2 ⟨rfl, hb2⟩; rw [HK.out]; have H2 := Lib.hid (HD.out.below hb2)))
      | (go_at_call 122; ((with_reducible refine (astore (x := (y : Int)) H2.out.x.m HI.out (by omega) (by omega) (by omega) rfl).mono ?_); rintro e w3 ⟨rfl, A3, O3⟩; have H3 := Lib.hid (H2.out.next A3 O3)))
      | fail)
  clear hrule A3 O3 HD H2 hb2
  have HD := Lib.hid H3.out.drew
  obtain ⟨c0, c1, c2, c3, c4, c5, c6, c7, c8, c9⟩ := H3.out.x.e.cells
  have blt := H3.out.x.e.lt
  go_wp2_with fail
  have hrule := SA2.rule B (B + 1) v l V S T p
  go_region_held3 (fun W => SA2 W B (B + 1) v l V S T p) (first | (with_reducible assumption) | (with_reducible exact H6.out.sa) | (with_reducible exact H5.out.sa) | (with_reducible exact H4.out.sa) | (with_reducible exact HD.out.sa))
    (first
      | (go_at_call 60; ((with_reducible refine (at_pos hy y96 HQ.out.1 HQ.out.2 _).mono ?_); rintro e w2 ⟨rfl, hb2⟩; have H4 := Lib.hid (HD.out.below hb2)))
      | (go_at_call 17; ((with_reducible refine (prev_yes V S T (q : Int) (r : Int) HR.out _).mono ?_); rintro e w3 ⟨rfl, hb3⟩; rw [HE.out]; have H5 := Lib.hid (H4.out.below hb3)))
      | (go_at_call 122; ((with_reducible refine (astore H5.out.x.m HL.out x0 (by omega) (by omega) rfl).mono ?_); rintro e w4 ⟨rfl, A4, O4⟩; have H6 := Lib.hid (H5.out.next A4 O4)))
      | fail)
  go_wp2_with fail
  go_end0
  exact ⟨rfl, by unfold joinF; rw [if_neg (by omega), HK.out, HJ.out]; exact H6.out.x.m, H6.out.x.o⟩
theorem join_any (A : TA w V S T p gb cap m f mk ts) (hv : (v : Int) < V) (hl : (l : Int) < lv V) (h2 : (x : Int) ≤ 2 * S) (hyS : (y : Int) ≤ 2 * S) (hm : m ≤ 99900000) {xI yI : Int} (hx : xI = (x : Int)) (hy : yI = (y : Int)) :
    Calls Try.prog 92 #[vA V S T p, vLs v l, .int .u64 xI, .int .u64 yI] w (Dta V S T p gb cap (m + 2) (joinF V S T f v l x y) mk ts (.tuple #[]) w) := by
  subst hx hy
  by_cases h : y = 0
  · subst h; exact join_nil A hv hl h2 hm
  · exact join_some A hv hl h2 (by omega) hyS hm
theorem slot_zero (hR : Rt V S T) (w : World) : Calls Try.prog 57 #[vA V S T p, .int .u64 0] w fun e w' => e = .returned (.tuple #[.int .i64 0, .bool false]) ∧ Below w.heap.size w w' := by
  have HE : Hid (slotF S T (-1) 1 = -1) := Lib.hid (if_neg (by omega))
  have HR := Lib.hid hR
  clear hR
  go_enter Try.func57, Try.ntmps57
  go_wp2_with fail
  refine (at_zero _).mono ?_; rintro e w2 ⟨rfl, hb2⟩
  have K2 := keepL ((Below.refl w.heap.size w).alloc (Nat.le_refl _) _) hb2
  have HJ : Hid (AjB w2 w.heap.size V S T p) := Lib.hid (Blk.below (Blk.new w _ _) hb2 (Blk.lt (Blk.new w _ _)))
  obtain ⟨c0, c1, c2, c3, c4, c5, c6, c7, c8, c9⟩ := HJ.out.cells
  have blt := HJ.out.lt
  go_wp2_with fail
  refine (ends_yes V S T (-1) HR.out _).mono ?_; rintro e w3 ⟨rfl, hb3⟩; rw [HE.out]
  go_wp2_with fail
  go_ret2
  exact ⟨rfl, keepL K2 hb3⟩
theorem slot_some (hR : Rt V S T) (h1 : 1 ≤ x) (h2 : (x : Int) ≤ 2 * S) {q : Nat} (hq : (x - 1) / 2 = q) (w : World) : Calls Try.prog 57 #[vA V S T p, .int .u64 (x : Int)] w fun e w' => e = .returned (.tuple #[.int .i64 (q : Int), .bool true]) ∧ Below w.heap.size w w' := by
  have x96 : x ≤ 96 := by have := hR.s2; omega
  have hs : slotF S T (q : Int) 1 = T + 1 + (q : Int) * 7 + 1 := if_pos (by omega)
  have HE := Lib.hid hs
  have hg : (0 : Int) ≤ T + 1 + (q : Int) * 7 + 1 := by have := hR.t1; omega
  obtain ⟨r, hr⟩ : ∃ r, (x - 1) % 2 = r := ⟨_, rfl⟩
  have HQ := Lib.hid (And.intro hq hr)
  have HR := Lib.hid hR
  clear hR hs hq hr
  go_enter Try.func57, Try.ntmps57
  go_wp2_with fail
  refine (at_pos h1 x96 HQ.out.1 HQ.out.2 _).mono ?_; rintro e w2 ⟨rfl, hb2⟩
  have K2 := keepL ((Below.refl w.heap.size w).alloc (Nat.le_refl _) _) hb2
  have HJ : Hid (AjB w2 w.heap.size V S T p) := Lib.hid (Blk.below (Blk.new w _ _) hb2 (Blk.lt (Blk.new w _ _)))
  obtain ⟨c0, c1, c2, c3, c4, c5, c6, c7, c8, c9⟩ := HJ.out.cells
  have blt := HJ.out.lt
  go_wp2_with fail
  refine (ends_yes V S T (q : Int) HR.out _).mono ?_; rintro e w3 ⟨rfl, hb3⟩; rw [HE.out]
  go_wp2_with fail
  go_ret2
  exact ⟨rfl, keepL K2 hb3⟩
end
end Go.Proofs.Ytaooglagddphnaa
