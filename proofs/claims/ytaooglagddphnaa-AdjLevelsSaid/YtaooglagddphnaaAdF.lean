/- The small calls of lists: at, number, load, store, next, behind, ahead, has, join. -/
import Derived.Test.YtaooglagddphnaaAdE
namespace Go.Proofs.Ytaooglagddphnaa
open Go.RowKit

set_option maxRecDepth 100000

section
variable {V S T : Int} {w w' w0 : World} {p gb cap m m' k x y i s d u v l : Nat} {t : Bool} {f f' : Nat → Int} {mk : Nat → Nat} {ts : List Tp} {ls : List E1}
theorem at_zero (w : World) : Calls Try.prog 60 #[.int .u64 0] w fun e w' => e = .returned (.tuple #[.int .i64 (-1), .int .i64 0]) ∧ Below w.heap.size w w' := by
  go_enter Try.func60, Try.ntmps60
  go_wp2_with fail
  go_ret2
  exact ⟨rfl, Below.refl _ _⟩
theorem at_pos {q r : Nat} (h1 : 1 ≤ x) (h2 : x ≤ 96) (hq : (x - 1) / 2 = q) (hr : (x - 1) % 2 = r) (w : World) : Calls Try.prog 60 #[.int .u64 (x : Int)] w fun e w' => e = .returned (.tuple #[.int .i64 (q : Int), .int .i64 (r : Int)]) ∧ Below w.heap.size w w' := by
  have e1 : ((x : Int) - 1) / 2 = (q : Int) := by omega
  have e2 : ((x : Int) - 1) % 2 = (r : Int) := by omega
  have e3 : ((x : Int) - 1).tdiv 2 = (q : Int) := (Int.tdiv_eq_ediv_of_nonneg (by omega)).trans e1
  have e4 : ((x : Int) - 1).tmod 2 = (r : Int) := (Int.tmod_eq_emod_of_nonneg (by omega)).trans e2
  have q96 : (q : Int) ≤ 96 := by omega
  have r96 : (r : Int) ≤ 96 := by omega
  clear hq hr e1 e2
  go_enter Try.func60, Try.ntmps60
  go_wp2_with fail
  go_ret2
  exact ⟨rfl, Below.refl _ _⟩
theorem number_any {s d : Nat} (h1 : s < 48) (h2 : d < 2) (w : World) : Calls Try.prog 90 #[.int .i64 (s : Int), .int .i64 (d : Int)] w fun e w' => e = .returned (.int .u64 ((2 * s + d + 1 : Nat) : Int)) ∧ Below w.heap.size w w' := by
  have HE : Hid ((s : Int) * 2 + d + 1 = ((2 * s + d + 1 : Nat) : Int)) := Lib.hid (by omega)
  go_enter Try.func90, Try.ntmps90
  go_wp2_with fail
  go_ret
  exact ⟨by rw [HE.out]; rfl, Below.refl _ _⟩
theorem aload (A : TA w V S T p gb cap m f mk ts) (hi : (i : Int) < o5 V S T) (hm : m ≤ 100000000) {iI : Int} (hI : iI = (i : Int)) :
    Calls Try.prog 104 #[vA V S T p, .int .i64 iI] w (Dta V S T p gb cap (m + 1) f mk ts (.int .u64 (f i)) w) := by
  subst hI
  have ml := methp_load
  have H := Lib.hid (AX.new A)
  have HL := Lib.hid hi
  clear A hi
  have i0 : (0 : Int) ≤ (i : Int) := Int.natCast_nonneg _
  go_enter Try.func104, Try.ntmps104
  go_wp2_with fail
  refine (ta_load H.out.m HL.out hm rfl).mono ?_; rintro e w3 ⟨rfl, A3, O3⟩
  have H3 := Lib.hid (H.out.next A3 O3)
  clear H A3 O3
  go_wp2_with fail
  go_ret
  exact ⟨rfl, H3.out.m, H3.out.o⟩
theorem astore (A : TA w V S T p gb cap m f mk ts) (hi : (i : Int) < o5 V S T) {x : Int} (h0 : 0 ≤ x) (h1 : x ≤ 18446744073709551615) (hm : m ≤ 100000000) {iI : Int} (hI : iI = (i : Int)) :
    Calls Try.prog 122 #[vA V S T p, .int .i64 iI, .int .u64 x] w (Dta V S T p gb cap (m + 1) (upd f i x) mk ts (.tuple #[]) w) := by
  subst hI
  have ms := methp_store
  have H := Lib.hid (AX.new A)
  have HL := Lib.hid hi
  clear A hi
  have i0 : (0 : Int) ≤ (i : Int) := Int.natCast_nonneg _
  go_enter Try.func122, Try.ntmps122
  go_wp2_with fail
  refine (ta_store H.out.m HL.out h0 h1 hm rfl).mono ?_; rintro e w3 ⟨rfl, A3, O3⟩
  have H3 := Lib.hid (H.out.next A3 O3)
  clear H A3 O3
  go_wp2_with fail
  go_end0
  exact ⟨rfl, H3.out.m, H3.out.o⟩
/-- Where there is no cell nothing is stored. -/
theorem astore_no {x : Int} (w : World) :
    Calls Try.prog 122 #[vA V S T p, .int .i64 (-1), .int .u64 x] w fun e w' => e = .returned (.tuple #[]) ∧ Below w.heap.size w w' := by
  go_enter Try.func122, Try.ntmps122
  go_wp2_with fail
  (try simp only [Exit.inBlock, Exit.then]); refine bodyPost_ret (results_none rfl _ _ _) rfl ?_
  exact ⟨rfl, (Below.refl _ _).alloc (Nat.le_refl _) _⟩
theorem next_head (hR : Rt V S T) (hv : (v : Int) < V) (hl : (l : Int) < lv V) (w : World) :
    Calls Try.prog 105 #[vA V S T p, vLs v l, .int .u64 0] w fun e w' => e = .returned (.int .i64 ((hC V S T v l : Nat) : Int)) ∧ Below w.heap.size w w' := by
  have HE := Lib.hid (head_int hR hv hl).1
  have HR := Lib.hid hR
  clear hR
  go_enter Try.func105, Try.ntmps105
  go_wp2_with fail
  refine (head_yes V S T (v : Int) (l : Int) HR.out _).mono ?_; rintro e w2 ⟨rfl, hb2⟩; rw [HE.out]
  go_wp2_with fail
  go_ret
  exact ⟨rfl, keepL (((Below.refl _ _).alloc (Nat.le_refl _) _).alloc (by simp) _) hb2⟩
theorem next_side (hR : Rt V S T) (h1 : 1 ≤ x) (h2 : (x : Int) ≤ 2 * S) (w : World) :
    Calls Try.prog 105 #[vA V S T p, vLs v l, .int .u64 (x : Int)] w fun e w' => e = .returned (.int .i64 ((nxC S T x : Nat) : Int)) ∧ Below w.heap.size w w' := by
  have x96 : x ≤ 96 := by have := hR.s2; omega
  have hE := nx_int hR h1 h2
  obtain ⟨q, hq⟩ : ∃ q, (x - 1) / 2 = q := ⟨_, rfl⟩
  obtain ⟨r, hr⟩ : ∃ r, (x - 1) % 2 = r := ⟨_, rfl⟩
  rw [hq, hr] at hE
  have HE := Lib.hid hE
  have HQ := Lib.hid (And.intro hq hr)
  clear hE hq hr
  have HR := Lib.hid hR
  clear hR
  have hx0 : ¬ (x : Int) = 0 := by omega
  have hx1 : ¬ x = 0 := by omega
  have HJ : Hid (AjB ((w.alloc (.cells #[.int .i64 V, .int .i64 S, .int .i64 T, .iface 84 (pmV p), .int .i64 1, .int .i64 0, .int .i64 V, .int .i64 S, .int .i64 T, .iface 84 (pmV p)] 38)).alloc (.cells #[.int .i64 (v : Int), .int .i64 (l : Int)] 105)) w.heap.size V S T p) :=
    Lib.hid (Blk.below (Blk.new w _ _) ((Below.refl _ _).alloc (Nat.le_refl _) _) (Blk.lt (Blk.new w _ _)))
  have HB : Hid (Below w.heap.size w ((w.alloc (.cells #[.int .i64 V, .int .i64 S, .int .i64 T, .iface 84 (pmV p), .int .i64 1, .int .i64 0, .int .i64 V, .int .i64 S, .int .i64 T, .iface 84 (pmV p)] 38)).alloc (.cells #[.int .i64 (v : Int), .int .i64 (l : Int)] 105))) :=
    Lib.hid (((Below.refl _ _).alloc (Nat.le_refl _) _).alloc (by simp) _)
  go_enter Try.func105, Try.ntmps105
  go_wp2_with fail
  generalize ((w.alloc (.cells #[.int .i64 V, .int .i64 S, .int .i64 T, .iface 84 (pmV p), .int .i64 1, .int .i64 0, .int .i64 V, .int .i64 S, .int .i64 T, .iface 84 (pmV p)] 38)).alloc (.cells #[.int .i64 (v : Int), .int .i64 (l : Int)] 105)) = w1 at HJ HB ⊢
  have hsz := HB.out.size
  obtain ⟨B, hB⟩ : ∃ B, w.heap.size = B := ⟨_, rfl⟩
  simp only [hB] at HJ HB hsz ⊢
  have HD : Hid (AjB w1.drew B V S T p) := Lib.hid HJ.out
  have hrule := AjB.rule B V S T p
  go_region_held3 (fun W => AjB W B V S T p) (first | (with_reducible assumption) | (with_reducible exact H3.out) | (with_reducible exact H2.out) | (with_reducible exact HD.out))
    (first
      | (go_at_call 60; ((with_reducible refine (at_pos h1 x96 HQ.out.1 HQ.out.2 _).mono ?_); rintro e w2 ⟨rfl, hb2⟩; have H2 := Lib.hid (AjB.below HD.out hb2)))
      | (go_at_call 18; ((with_reducible refine (next_yes V S T (q : Int) (r : Int) HR.out _).mono ?_); rintro e w3 ⟨rfl, hb3⟩; rw [HE.out]; have H3 := Lib.hid (AjB.below H2.out hb3)))
      | fail)
  go_wp2_with fail
  go_ret
  refine ⟨rfl, ?_⟩
  rw [hB]
  exact (HB.out.drew.trans (hb2.mono hsz)).trans (hb3.mono (Nat.le_trans hsz hb2.size))
theorem next_any (hR : Rt V S T) (hv : (v : Int) < V) (hl : (l : Int) < lv V) (h2 : (x : Int) ≤ 2 * S) (w : World) :
    Calls Try.prog 105 #[vA V S T p, vLs v l, .int .u64 (x : Int)] w fun e w' => e = .returned (.int .i64 ((nxA V S T v l x : Nat) : Int)) ∧ Below w.heap.size w w' := by
  unfold nxA
  by_cases h : x = 0
  · subst h; exact next_head hR hv hl w
  · rw [if_neg h]; exact next_side hR (by omega) h2 w
theorem behind_any (A : TA w V S T p gb cap m f mk ts) (hv : (v : Int) < V) (hl : (l : Int) < lv V) (h2 : (x : Int) ≤ 2 * S) (hm : m ≤ 100000000) {xI : Int} (hxI : xI = (x : Int)) :
    Calls Try.prog 58 #[vA V S T p, vLs v l, .int .u64 xI] w (Dta V S T p gb cap (m + 1) f mk ts (.int .u64 (f (nxA V S T v l x))) w) := by
  subst hxI
  have H := Lib.hid (AY.new A v l)
  have HR := Lib.hid A.hR
  have HI := Lib.hid (nxA_o5 A.hR hv hl h2)
  clear A
  generalize hk : nxA V S T v l x = k at HI
  have HK := Lib.hid hk
  clear hk
  go_enter Try.func58, Try.ntmps58
  go_wp2_with fail
  generalize ((w.alloc (.cells #[.int .i64 V, .int .i64 S, .int .i64 T, .iface 84 (pmV p), .int .i64 1, .int .i64 0, .int .i64 V, .int .i64 S, .int .i64 T, .iface 84 (pmV p)] 38)).alloc (.cells #[.int .i64 (v : Int), .int .i64 (l : Int)] 105)) = w1 at H ⊢
  generalize hB : w.heap.size = B at H ⊢
  have HD := Lib.hid H.out.drew
  have hrule := SA2.rule B (B + 1) v l V S T p
  go_region_held3 (fun W => SA2 W B (B + 1) v l V S T p) (first | (with_reducible assumption) | (with_reducible exact H3.out.sa) | (with_reducible exact H2.out.sa) | (with_reducible exact HD.out.sa))
    (first
      | (go_at_call 105; ((with_reducible refine (next_any HR.out hv hl h2 _).mono ?_); rintro e w2 ⟨rfl, hb2⟩; rw [HK.out]; have H2 := Lib.hid (HD.out.below hb2)))
      | (go_at_call 104; ((with_reducible refine (aload H2.out.x.m HI.out hm rfl).mono ?_); rintro e w3 ⟨rfl, A3, O3⟩; have H3 := Lib.hid (H2.out.next A3 O3)))
      | fail)
  go_wp2_with fail
  go_ret
  exact ⟨by rw [← HK.out]; rfl, H3.out.x.m, H3.out.x.o⟩
theorem ahead_any (A : TA w V S T p gb cap m f mk ts) (h1 : 1 ≤ x) (h2 : (x : Int) ≤ 2 * S) (hm : m ≤ 100000000) :
    Calls Try.prog 96 #[vA V S T p, .int .u64 (x : Int)] w (Dta V S T p gb cap (m + 1) f mk ts (.int .u64 (f (pvC S T x))) w) := by
  have H := Lib.hid (AX.new A)
  have HR := Lib.hid A.hR
  have HI := Lib.hid (pv_o5 A.hR h1 h2)
  have x96 : x ≤ 96 := by have := A.hR.s2; omega
  have hE := pv_int A.hR h1 h2
  clear A
  obtain ⟨q, hq⟩ : ∃ q, (x - 1) / 2 = q := ⟨_, rfl⟩
  obtain ⟨r, hr⟩ : ∃ r, (x - 1) % 2 = r := ⟨_, rfl⟩
  rw [hq, hr] at hE
  generalize hk : pvC S T x = k at HI hE
  have HE := Lib.hid hE
  have HK := Lib.hid hk
  have HQ := Lib.hid (And.intro hq hr)
  clear hE hq hr hk
  go_enter Try.func96, Try.ntmps96
  go_wp2_with fail
  generalize (w.alloc (.cells #[.int .i64 V, .int .i64 S, .int .i64 T, .iface 84 (pmV p), .int .i64 1, .int .i64 0, .int .i64 V, .int .i64 S, .int .i64 T, .iface 84 (pmV p)] 38)) = w1 at H ⊢
  generalize hB : w.heap.size = B at H ⊢
  have HD := Lib.hid H.out.drew
  have hrule := AjB.rule B V S T p
  go_region_held3 (fun W => AjB W B V S T p) (first | (with_reducible assumption) | (with_reducible exact H4.out.e) | (with_reducible exact H3.out.e) | (with_reducible exact H2.out.e) | (with_reducible exact HD.out.e))
    (first
      | (go_at_call 60; ((with_reducible refine (at_pos h1 x96 HQ.out.1 HQ.out.2 _).mono ?_); rintro e w2 ⟨rfl, hb2⟩; have H2 := Lib.hid (HD.out.below hb2)))
      | (go_at_call 17; ((with_reducible refine (prev_yes V S T (q : Int) (r : Int) HR.out _).mono ?_); rintro e w3 ⟨rfl, hb3⟩; rw [HE.out]; have H3 := Lib.hid (H2.out.below hb3)))
      | (go_at_call 104; ((with_reducible refine (aload H3.out.m HI.out hm rfl).mono ?_); rintro e w4 ⟨rfl, A3, O3⟩; have H4 := Lib.hid (H3.out.next A3 O3)))
      | fail)
  go_wp2_with fail
  go_ret
  exact ⟨by rw [← HK.out]; rfl, H4.out.m, H4.out.o⟩
end
end Go.Proofs.Ytaooglagddphnaa
