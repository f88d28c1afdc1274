/- Find, set, Put, Remove. -/
import Derived.Test.YtaooglagddphnaaEdB
namespace Go.Proofs.Ytaooglagddphnaa
open Go.RowKit

set_option maxRecDepth 100000

section
variable {w w' w0 : World} {V S T : Int} {p gb cap m u v s : Nat} {f : Nat → Int} {t : Bool}
theorem find_no (h : EM w V S T p gb cap m f) (hu : (u : Int) < V) (hv : (v : Int) < V) (hne : u ≠ v) (hf : f (eC V S T u v) = 0) (hm : m ≤ 100000000) :
    Calls Try.prog 45 #[vE V S T p, .int .i64 (u : Int), .int .i64 (v : Int)] w fun e w' => e = .returned (.tuple #[.int .i64 0, .bool false, .bool false]) ∧ EM w' V S T p gb cap (m + 1) f ∧ Only p gb w w' := by
  have ml := methp_load
  have H := Lib.hid (EX.new h)
  have HR := Lib.hid h.hR
  have HK := Lib.hid (eC_int h.hR hu hv hne)
  have HL := Lib.hid (eC_lt h.hR hu hv hne)
  have HF := Lib.hid hf
  clear h hf
  have hk0 : (0 : Int) ≤ ((eC V S T u v : Nat) : Int) := Int.natCast_nonneg _
  generalize eC V S T u v = k at HK HL HF hk0
  go_enter Try.func45, Try.ntmps45
  go_wp2_with fail
  generalize w.alloc (.cells #[.int .i64 V, .int .i64 S, .int .i64 T, .iface 84 (pmV p)] 36) = w1 at H ⊢
  generalize w.heap.size = b at H ⊢
  refine (edge_yes V S T (u : Int) (v : Int) HR.out _).mono ?_; rintro e w2 ⟨rfl, hb2⟩; rw [HK.out]
  have H2 := Lib.hid (H.out.below hb2)
  clear H hb2
  obtain ⟨c0, c1, c2, c3⟩ := H2.out.e.cells
  have blt := H2.out.e.lt
  go_wp2_with fail
  refine (em_load H2.out.m HL.out hm rfl).mono ?_; rintro e w3 ⟨rfl, A3, O3⟩; rw [HF.out]
  have H3 := Lib.hid (H2.out.next A3 O3)
  clear H2 A3 O3 c0 c1 c2 c3 blt
  obtain ⟨c0, c1, c2, c3⟩ := H3.out.e.cells
  have blt := H3.out.e.lt
  go_wp2_with fail
  refine (hasSlot_no HR.out (by omega) _).mono ?_; rintro e w4 ⟨rfl, hb4⟩
  have H4 := Lib.hid (H3.out.below hb4)
  clear H3 hb4 c0 c1 c2 c3 blt
  go_wp2_with fail
  go_ret3
  exact ⟨rfl, H4.out.m, H4.out.o⟩
theorem find_yes (h : EM w V S T p gb cap m f) (hu : (u : Int) < V) (hv : (v : Int) < V) (hne : u ≠ v) (hs : (s : Int) < S) (hf : f (eC V S T u v) = eV s t) (hm : m ≤ 100000000) :
    Calls Try.prog 45 #[vE V S T p, .int .i64 (u : Int), .int .i64 (v : Int)] w fun e w' => e = .returned (.tuple #[.int .i64 (s : Int), .bool t, .bool true]) ∧ EM w' V S T p gb cap (m + 1) f ∧ Only p gb w w' := by
  have ml := methp_load
  have H := Lib.hid (EX.new h)
  have HR := Lib.hid h.hR
  have HK := Lib.hid (eC_int h.hR hu hv hne)
  have HL := Lib.hid (eC_lt h.hR hu hv hne)
  have HF := Lib.hid hf
  clear h hf
  have hk0 : (0 : Int) ≤ ((eC V S T u v : Nat) : Int) := Int.natCast_nonneg _
  generalize eC V S T u v = k at HK HL HF hk0
  go_enter Try.func45, Try.ntmps45
  go_wp2_with fail
  generalize w.alloc (.cells #[.int .i64 V, .int .i64 S, .int .i64 T, .iface 84 (pmV p)] 36) = w1 at H ⊢
  generalize w.heap.size = b at H ⊢
  refine (edge_yes V S T (u : Int) (v : Int) HR.out _).mono ?_; rintro e w2 ⟨rfl, hb2⟩; rw [HK.out]
  have H2 := Lib.hid (H.out.below hb2)
  clear H hb2
  obtain ⟨c0, c1, c2, c3⟩ := H2.out.e.cells
  have blt := H2.out.e.lt
  go_wp2_with fail
  refine (em_load H2.out.m HL.out hm rfl).mono ?_; rintro e w3 ⟨rfl, A3, O3⟩; rw [HF.out, eV]
  have H3 := Lib.hid (H2.out.next A3 O3)
  clear H2 A3 O3 c0 c1 c2 c3 blt
  obtain ⟨c0, c1, c2, c3⟩ := H3.out.e.cells
  have blt := H3.out.e.lt
  have sI : (s : Int) < 48 := by have := HR.out.s2; omega
  have hq : (((s + 1) * 2 + bN t : Nat) : Int) / 2 = (s : Int) + 1 := by have := bN_le t; omega
  have s0 : (0 : Int) ≤ (s : Int) := Int.natCast_nonneg _
  have hand : (bits .and .u64 (((s + 1) * 2 + bN t : Nat) : Int) 1 != 0) = t := by
    rw [and_1 _ (by omega) (by have := bN_le t; omega), show (((s + 1) * 2 + bN t : Nat) : Int) % 2 = bN t by have := bN_le t; omega]
    cases t <;> rfl
  generalize (s + 1) * 2 + bN t = n at hq hand ⊢
  go_wp2_with fail
  refine (hasSlot_yes HR.out s0 hs _).mono ?_; rintro e w4 ⟨rfl, hb4⟩
  have H4 := Lib.hid (H3.out.below hb4)
  clear H3 hb4 c0 c1 c2 c3 blt
  go_wp2_with fail
  go_ret3
  exact ⟨rfl, H4.out.m, H4.out.o⟩
theorem or_256 {a b : Nat} (ha : a < 16) (hb : b < 16) : bits .or .i64 ((a : Int) * 256) (b : Int) = nV a b := by
  have key : ∀ a < 16, ∀ b < 16, bits .or .i64 ((a : Nat) * 256 : Int) ((b : Nat) : Int) = ((a * 256 + b : Nat) : Int) := by decide +kernel
  exact key a ha b hb
theorem set_any (h : EM w V S T p gb cap m f) (hu : (u : Int) < V) (hv : (v : Int) < V) (hne : u ≠ v) (hs : (s : Int) < S) (hm : m ≤ 100000000) :
    Calls Try.prog 88 #[vE V S T p, .int .i64 (s : Int), .int .i64 (u : Int), .int .i64 (v : Int), .bool t] w fun e w' => e = .returned (.tuple #[]) ∧ EM w' V S T p gb cap (m + 1) (upd f (eC V S T u v) (eV s t)) ∧ Only p gb w w' := by
  have ms := methp_store
  have mn := nilp_store
  have H := Lib.hid (EX.new h)
  have HR := Lib.hid h.hR
  have HK := Lib.hid (eC_int h.hR hu hv hne)
  have HL := Lib.hid (eC_lt h.hR hu hv hne)
  have sI : (s : Int) < 48 := by have := h.hR.s2; omega
  have s0 : (0 : Int) ≤ (s : Int) := Int.natCast_nonneg _
  have e0 : eV s t = ((s : Int) + 1) * 2 + bN t := by unfold eV; omega
  have HE0 : Hid (0 ≤ eV s t ∧ eV s t ≤ 18446744073709551615) := Lib.hid (by have := bN_le t; omega)
  have hor : bits .or .u64 (((s : Int) + 1) * 2) 1 = ((s : Int) + 1) * 2 + 1 := or_1 _ (by omega) (by omega)
  clear h
  have hk0 : (0 : Int) ≤ ((eC V S T u v : Nat) : Int) := Int.natCast_nonneg _
  generalize eC V S T u v = k at HK HL hk0
  cases t
  · as_aux_lemma =>
    have e1 : eV s false = ((s : Int) + 1) * 2 := by rw [e0]; show _ + ((0 : Nat) : Int) = _; omega
    have HE1 := Lib.hid e1
    clear e0 e1
    go_enter Try.func88, Try.ntmps88
    go_wp2_with fail
    generalize w.alloc (.cells #[.int .i64 V, .int .i64 S, .int .i64 T, .iface 84 (pmV p)] 36) = w1 at H ⊢
    generalize w.heap.size = b at H ⊢
    obtain ⟨c0, c1, c2, c3⟩ := H.out.e.cells
    have blt := H.out.e.lt
    have HD := Lib.hid H.out.drew
    have hrule := EdB.rule b V S T p
    go_region_held3 (fun W => EdB W b V S T p) (first | (with_reducible assumption) | (with_reducible exact H3.out.e) | (with_reducible exact H2.out.e) | (with_reducible exact HD.out.e))
      (first
        | (go_at_call 83; ((with_reducible refine (edge_yes V S T (u : Int) (v : Int) HR.out _).mono ?_); rintro e w2 ⟨rfl, hb2⟩; rw [HK.out]; have H2 := Lib.hid (HD.out.below hb2)))
        | ((with_reducible refine (em_store (x := ((s : Int) + 1) * 2) H2.out.m HL.out (by omega) (by omega) hm rfl).mono ?_); rintro e w3 ⟨rfl, A3, O3⟩; have H3 := Lib.hid (H2.out.next A3 O3))
        | fail)
    go_wp2_with fail
    go_end0
    exact ⟨rfl, by rw [HE1.out]; exact H3.out.m, H3.out.o⟩
  · as_aux_lemma =>
    have e1 : eV s true = ((s : Int) + 1) * 2 + 1 := by rw [e0]; rfl
    have HE1 := Lib.hid e1
    clear e0 e1
    go_enter Try.func88, Try.ntmps88
    go_wp2_with fail
    generalize w.alloc (.cells #[.int .i64 V, .int .i64 S, .int .i64 T, .iface 84 (pmV p)] 36) = w1 at H ⊢
    generalize w.heap.size = b at H ⊢
    obtain ⟨c0, c1, c2, c3⟩ := H.out.e.cells
    have blt := H.out.e.lt
    have HD := Lib.hid H.out.drew
    have hrule := EdB.rule b V S T p
    go_region_held3 (fun W => EdB W b V S T p) (first | (with_reducible assumption) | (with_reducible exact H3.out.e) | (with_reducible exact H2.out.e) | (with_reducible exact HD.out.e))
      (first
        | (go_at_call 83; ((with_reducible refine (edge_yes V S T (u : Int) (v : Int) HR.out _).mono ?_); rintro e w2 ⟨rfl, hb2⟩; rw [HK.out]; have H2 := Lib.hid (HD.out.below hb2)))
        | ((with_reducible refine (em_store (x := ((s : Int) + 1) * 2 + 1) H2.out.m HL.out (by omega) (by omega) hm rfl).mono ?_); rintro e w3 ⟨rfl, A3, O3⟩; have H3 := Lib.hid (H2.out.next A3 O3))
        | fail)
    go_wp2_with fail
    go_end0
    exact ⟨rfl, by rw [HE1.out]; exact H3.out.m, H3.out.o⟩
theorem remove_any (h : EM w V S T p gb cap m f) (hu : (u : Int) < V) (hv : (v : Int) < V) (hne : u ≠ v) (hm : m ≤ 100000000) :
    Calls Try.prog 48 #[vE V S T p, .int .i64 (u : Int), .int .i64 (v : Int)] w fun e w' => e = .returned (.tuple #[]) ∧ EM w' V S T p gb cap (m + 1) (upd f (eC V S T u v) 0) ∧ Only p gb w w' := by
  have ms := methp_store
  have H := Lib.hid (EX.new h)
  have HR := Lib.hid h.hR
  have HK := Lib.hid (eC_int h.hR hu hv hne)
  have HL := Lib.hid (eC_lt h.hR hu hv hne)
  clear h
  have hk0 : (0 : Int) ≤ ((eC V S T u v : Nat) : Int) := Int.natCast_nonneg _
  generalize eC V S T u v = k at HK HL hk0
  go_enter Try.func48, Try.ntmps48
  go_wp2_with fail
  generalize w.alloc (.cells #[.int .i64 V, .int .i64 S, .int .i64 T, .iface 84 (pmV p)] 36) = w1 at H ⊢
  generalize w.heap.size = b at H ⊢
  refine (edge_yes V S T (u : Int) (v : Int) HR.out _).mono ?_; rintro e w2 ⟨rfl, hb2⟩; rw [HK.out]
  have H2 := Lib.hid (H.out.below hb2)
  clear H hb2
  obtain ⟨c0, c1, c2, c3⟩ := H2.out.e.cells
  have blt := H2.out.e.lt
  go_wp2_with fail
  refine (em_store H2.out.m HL.out (by omega) (by omega) hm rfl).mono ?_; rintro e w3 ⟨rfl, A3, O3⟩
  have H3 := Lib.hid (H2.out.next A3 O3)
  clear H2 A3 O3 c0 c1 c2 c3 blt
  go_wp2_with fail
  go_end0
  exact ⟨rfl, H3.out.m, H3.out.o⟩
end
end Go.Proofs.Ytaooglagddphnaa
