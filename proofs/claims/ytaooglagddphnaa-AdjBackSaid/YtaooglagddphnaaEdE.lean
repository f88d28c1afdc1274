/- of: the edge of a slot. -/
import Derived.Test.YtaooglagddphnaaEdD
namespace Go.Proofs.Ytaooglagddphnaa
open Go.RowKit

set_option maxRecDepth 100000

/-- An edge's value. -/
abbrev vEd (u v l : Nat) (t : Bool) : Value := .agg #[.int .i64 (u : Int), .int .i64 (v : Int), .int .i64 (l : Int), .bool t]
section
variable {w w' w0 : World} {V S T : Int} {p gb cap m m' u v s l b r : Nat} {f f' : Nat → Int} {t : Bool}
theorem EO.rlt (h : EO w0 w b r V S T p gb cap m f) : r < w.heap.size := by obtain ⟨_, _, _, _, h⟩ := h.rb; exact h.lt
/-- A slot's edge stands in memory. -/
structure At (V S T : Int) (f : Nat → Int) (s u v l : Nat) (t : Bool) : Prop where
  uv : u < v
  hv : (v : Int) < V
  hs : (s : Int) < S
  hl : (l : Int) < lv V
  e : f (eC V S T u v) = eV s t
  e1 : f (sC S T s 1) = nV u v
  e2 : f (sC S T s 2) = (l : Int)
theorem ER.at {l : List E1} {x : E1} (h : ER V S T f l) (hx : x ∈ l) : At V S T f x.s x.u x.v x.l x.t := by
  obtain ⟨h1, h2, h3, h4⟩ := h.ok x hx
  obtain ⟨h5, h6, h7⟩ := h.is x hx
  exact ⟨h1, h2, h3, h4, h5, h6, h7⟩
set_option maxHeartbeats 2000000 in
theorem of_yes11 (h : EM w V S T p gb cap m f) (hA : At V S T f s u v l t) (hm : m ≤ 99900000) :
    Calls Try.prog 101 #[vE V S T p, .int .i64 (s : Int)] w fun e w' => e = .returned (.tuple #[vEd u v l t, .bool true]) ∧ EM w' V S T p gb cap (m + 3) f ∧ Only p gb w w' := by
  have ml := methp_load
  have mn := nilp_load
  have H := Lib.hid (EO.new h)
  have HR := Lib.hid h.hR
  have HAt := Lib.hid hA
  have H1 : Hid (slotF S T (s : Int) 1 = ((sC S T s 1 : Nat) : Int)) := Lib.hid (sC_int h.hR hA.hs (k := 1) (by decide))
  have H2 : Hid (slotF S T (s : Int) 2 = ((sC S T s 2 : Nat) : Int)) := Lib.hid (sC_int h.hR hA.hs (k := 2) (by decide))
  have HL1 := Lib.hid (sC_lt (T := T) h.hR hA.hs (k := 1) (by decide))
  have HL2 := Lib.hid (sC_lt (T := T) h.hR hA.hs (k := 2) (by decide))
  have s0 : (0 : Int) ≤ (s : Int) := Int.natCast_nonneg _
  have u0 : (0 : Int) ≤ (u : Int) := Int.natCast_nonneg _
  have v0 : (0 : Int) ≤ (v : Int) := Int.natCast_nonneg _
  have l0 : (0 : Int) ≤ (l : Int) := Int.natCast_nonneg _
  have u16 : (u : Int) < 16 := by have := h.hR.v2; have := hA.uv; have := hA.hv; omega
  have v16 : (v : Int) < 16 := by have := h.hR.v2; have := hA.hv; omega
  have l5 : (l : Int) < 5 := by have := (lv_bd V).2; have := hA.hl; omega
  have wl : IntKind.i64.wrap (l : Int) = (l : Int) := IntWalk.i64_in _ (by omega)
  obtain ⟨n, hn⟩ : ∃ n, u * 256 + v = n := ⟨_, rfl⟩
  have HN : Hid (f (sC S T s 1) = ((n : Nat) : Int)) := Lib.hid (by rw [hA.e1, ← hn]; rfl)
  have q1 : ((n : Nat) : Int) / 256 = (u : Int) := by omega
  have q2 : bits .and .u64 ((n : Nat) : Int) 255 = (v : Int) := by rw [and_255 _ (by omega) (by omega)]; omega
  have HF2 := Lib.hid hA.e2
  clear h hn hA
  go_enter Try.func101, Try.ntmps101
  go_wp2_with fail
  generalize (w.alloc (.cells #[.int .i64 V, .int .i64 S, .int .i64 T, .iface 84 (pmV p)] 36)).alloc (.cells #[.int .i64 0, .int .i64 0, .int .i64 0, .bool false] 55) = w1 at H ⊢
  have hr9 : Hid (w.heap.size ≤ w.heap.size + 1) := Lib.hid (Nat.le_succ _)
  generalize w.heap.size + 1 = r at H hr9 ⊢
  generalize hbz : w.heap.size = b at H hr9 ⊢
  refine (hasSlot_yes HR.out s0 HAt.out.hs _).mono ?_; rintro e w2 ⟨rfl, hb2⟩
  have H3 := Lib.hid (H.out.below hb2)
  clear H hb2
  obtain ⟨⟨c0, c1, c2, c3⟩, ⟨d0, d1, d2, d3⟩, d4, d5, d6, d7⟩ := SO.rule _ _ _ _ _ _ _ H3.out.so
  have blt := H3.out.ex.e.lt
  have rlt := H3.out.rlt
  go_wp2_with fail
  clear c0 c1 c2 c3 d0 d1 d2 d3 d4 d5 d6 d7 blt rlt
  have HD := Lib.hid H3.out.drew
  obtain ⟨⟨c0, c1, c2, c3⟩, ⟨d0, d1, d2, d3⟩, d4, d5, d6, d7⟩ := SO.rule _ _ _ _ _ _ _ HD.out.so
  have blt := HD.out.ex.e.lt
  have rlt := HD.out.rlt
  have hrule := SO.rule b r V S T p
  go_region_held3 (fun W => SO W b r V S T p) (first | (with_reducible assumption) | (with_reducible exact H5.out.so) | (with_reducible exact H4.out.so) | (with_reducible exact HD.out.so))
    (first
      | (go_at_call 86; ((with_reducible refine (ends_yes V S T (s : Int) HR.out _).mono ?_); rintro e w2 ⟨rfl, hb2⟩; rw [H1.out]; have H4 := Lib.hid (HD.out.below hb2)))
      | ((with_reducible refine (em_load H4.out.ex.m HL1.out (by omega) rfl).mono ?_); rintro e w3 ⟨rfl, A3, O3⟩; rw [HN.out]; have H5 := Lib.hid (H4.out.next A3 O3))
      | fail)
  clear c0 c1 c2 c3 d0 d1 d2 d3 d4 d5 d6 d7 blt rlt
  clear hrule A3 O3 HD H3 H4 hb2
  obtain ⟨⟨c0, c1, c2, c3⟩, ⟨d0, d1, d2, d3⟩, d4, d5, d6, d7⟩ := SO.rule _ _ _ _ _ _ _ H5.out.so
  have blt := H5.out.ex.e.lt
  have rlt := H5.out.rlt
  go_wp2_with fail
  refine (find_yes H5.out.ex.m (by have := HAt.out.uv; have := HAt.out.hv; omega) HAt.out.hv (by have := HAt.out.uv; omega) HAt.out.hs HAt.out.e (by omega)).mono ?_; rintro e w6 ⟨rfl, A6, O6⟩
  have H6 := Lib.hid (H5.out.next A6 O6)
  clear A6 O6 H5
  clear c0 c1 c2 c3 d0 d1 d2 d3 d4 d5 d6 d7 blt rlt
  obtain ⟨⟨c0, c1, c2, c3⟩, ⟨d0, d1, d2, d3⟩, d4, d5, d6, d7⟩ := SO.rule _ _ _ _ _ _ _ H6.out.so
  have blt := H6.out.ex.e.lt
  have rlt := H6.out.rlt
  have sne : ((s : Int) != (s : Int)) = false := bne_self_eq_false _
  go_wp2_with fail
  clear c0 c1 c2 c3 d0 d1 d2 d3 d4 d5 d6 d7 blt rlt
  have HD := Lib.hid H6.out.drew
  obtain ⟨⟨c0, c1, c2, c3⟩, ⟨d0, d1, d2, d3⟩, d4, d5, d6, d7⟩ := SO.rule _ _ _ _ _ _ _ HD.out.so
  have blt := HD.out.ex.e.lt
  have rlt := HD.out.rlt
  have hrule := SO.rule b r V S T p
  go_region_held3 (fun W => SO W b r V S T p) (first | (with_reducible assumption) | (with_reducible exact SO.set H8.out.so _ _ _ _) | (with_reducible exact H8.out.so) | (with_reducible exact H7.out.so) | (with_reducible exact HD.out.so))
    (first
      | (go_at_call 87; ((with_reducible refine (level_yes V S T (s : Int) HR.out _).mono ?_); rintro e w2 ⟨rfl, hb2⟩; rw [H2.out]; have H7 := Lib.hid (HD.out.below hb2)))
      | ((with_reducible refine (em_load H7.out.ex.m HL2.out (by omega) rfl).mono ?_); rintro e w3 ⟨rfl, A3, O3⟩; rw [HF2.out]; have H8 := Lib.hid (H7.out.next A3 O3))
      | fail)
  have H9 := Lib.hid ((((H8.out.set 0 (.int .i64 (u : Int))).set 1 (.int .i64 (v : Int))).set 2 (.int .i64 (l : Int))).set 3 (.bool t))
  clear c0 c1 c2 c3 d0 d1 d2 d3 d4 d5 d6 d7 blt rlt
  obtain ⟨x0, x1, x2, x3, hblk⟩ := H8.out.rb
  have hb4 := hblk.four (.int .i64 (u : Int)) (.int .i64 (v : Int)) (.int .i64 (l : Int)) (.bool t)
  have d0 := hb4.cell 0
  have d1 := hb4.cell 1
  have d2 := hb4.cell 2
  have d3 := hb4.cell 3
  clear hrule hb2 A3 O3 H6 H7 HD hblk hb4
  go_wp2_with fail
  exact bodyPost_ret (v := .tuple #[vEd u v l t, .bool true]) (by simp [results, Try.results101, go_sem, d0, d1, d2, d3]) rfl ⟨rfl, H9.out.ex.m, H9.out.ex.o⟩
end
end Go.Proofs.Ytaooglagddphnaa
