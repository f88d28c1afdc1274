/- Get, Turn, Lift. -/
import Derived.Test.YtaooglagddphnaaEdE
namespace Go.Proofs.Ytaooglagddphnaa
open Go.RowKit

set_option maxRecDepth 100000

section
variable {w w' w0 : World} {V S T : Int} {p gb cap m m' u v s l b r k : Nat} {f f' : Nat → Int} {t t2 : Bool}
set_option maxHeartbeats 2000000 in
theorem lift_yes11 (h : EM w V S T p gb cap m f) (hA : At V S T f s u v l t) (hk : (k : Int) < lv V) (hm : m ≤ 99900000) :
    Calls Try.prog 49 #[vE V S T p, .int .i64 (s : Int), .int .i64 (k : Int)] w fun e w' => e = .returned (.tuple #[]) ∧ EM w' V S T p gb cap (m + 4) (upd f (sC S T s 2) (k : Int)) ∧ Only p gb w w' := by
  have ms := methp_store
  have mn := nilp_store
  have H := Lib.hid (EX.new h)
  have HR := Lib.hid h.hR
  have HAt := Lib.hid hA
  have HK := Lib.hid hk
  have H2i : Hid (slotF S T (s : Int) 2 = ((sC S T s 2 : Nat) : Int)) := Lib.hid (sC_int h.hR hA.hs (k := 2) (by decide))
  have HL2 := Lib.hid (sC_lt (T := T) h.hR hA.hs (k := 2) (by decide))
  have k0 : (0 : Int) ≤ (k : Int) := Int.natCast_nonneg _
  have k5 : (k : Int) < 5 := by have := (lv_bd V).2; omega
  have wq3 : IntKind.u64.wrap (k : Int) = (k : Int) := IntWalk.u64_in _ (by omega)
  clear h hA hk
  go_enter Try.func49, Try.ntmps49
  go_wp2_with fail
  generalize w.alloc (.cells #[.int .i64 V, .int .i64 S, .int .i64 T, .iface 84 (pmV p)] 36) = w1 at H ⊢
  generalize w.heap.size = b at H ⊢
  refine (of_yes11 H.out.m HAt.out hm).mono ?_; rintro e w2 ⟨rfl, A2, O2⟩
  have H2 := Lib.hid (H.out.next A2 O2)
  clear H A2 O2
  obtain ⟨c0, c1, c2, c3⟩ := H2.out.e.cells
  have blt := H2.out.e.lt
  go_wp2_with fail
  have H3 := Lib.hid (H2.out.below ((Below.refl _ _).alloc (Nat.le_refl _) (.cells #[.int .i64 (u : Int), .int .i64 (v : Int), .int .i64 (l : Int), .bool t] 55)))
  refine (hasLevel_yes HR.out k0 HK.out _).mono ?_; rintro e w5 ⟨rfl, hb5⟩
  have H5 := Lib.hid (H3.out.below hb5)
  clear H2 H3 hb5 c0 c1 c2 c3 blt
  obtain ⟨c0, c1, c2, c3⟩ := H5.out.e.cells
  have blt := H5.out.e.lt
  go_wp2_with fail
  have HD := Lib.hid H5.out.drew
  have hrule := EdB.rule b V S T p
  go_region_held3 (fun W => EdB W b V S T p) (first | (with_reducible assumption) | (with_reducible exact H7.out.e) | (with_reducible exact H6.out.e) | (with_reducible exact HD.out.e))
    (first
      | (go_at_call 87; ((with_reducible refine (level_yes V S T (s : Int) HR.out _).mono ?_); rintro e w2 ⟨rfl, hb2⟩; rw [H2i.out]; have H6 := Lib.hid (HD.out.below hb2)))
      | ((with_reducible refine (em_store (x := (k : Int)) H6.out.m HL2.out k0 (by omega) (by omega) rfl).mono ?_); rintro e w3 ⟨rfl, A3, O3⟩; have H7 := Lib.hid (H6.out.next A3 O3))
      | fail)
  clear c0 c1 c2 c3 blt hrule
  go_wp2_with fail
  go_end0
  exact ⟨rfl, H7.out.m, H7.out.o⟩
end
end Go.Proofs.Ytaooglagddphnaa
