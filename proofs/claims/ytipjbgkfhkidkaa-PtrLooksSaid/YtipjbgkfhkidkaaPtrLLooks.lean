/- PtrLooks: the walk. Printed by wip/tools/ptrll.py. -/
import Derived.Test.YtipjbgkfhkidkaaPtrJ
import Derived.Test.YtipjbgkfhkidkaaPtrLWrites
namespace Go.Proofs.Ytipjbgkfhkidkaa
open Go.RowKit

set_option maxRecDepth 100000

/-- What the law wants of a state's bits. -/
def wantF (b : Bool) (th v s : Int) : Int := if b = false ∨ (0 < th ∧ 33554432 ≤ s) then 0 else rmeansV v s

section
variable {w w' W w0 : World} {p g n cap k m wb rb vb q t : Nat} {c f : Nat → Int} {v o x y z th tg s : Int} {b : Bool}
theorem wantC_is (h1 : w.cell? ⟨rb, 0, none⟩ = some (.bool b)) (h2 : w.cell? ⟨wb, 2, none⟩ = some (.int .i64 th)) (h3 : w.cell? ⟨vb, 0, none⟩ = some (.int .u64 v)) (hv0 : 0 ≤ v) (hv1 : v ≤ 18446744073709551615) (hs0 : 0 ≤ s) (hs1 : s ≤ 18446744073709551615) (hx : wantF b th v s = x) :
    Calls Try.prog 24 #[.int .u64 s, .pointer (some ⟨rb, 0, none⟩), .pointer (some ⟨wb, 0, none⟩), .pointer (some ⟨vb, 0, none⟩)] w fun e w' => e = .returned (.int .i64 x) ∧ Below w.heap.size w w' := by
  subst hx
  cases b
  · rw [show wantF false th v s = 0 from if_pos (.inl rfl)]
    go_enter Try.func24, Try.ntmps24
    go_wp2_with fail
    go_ret
    exact ⟨rfl, Below.refl _ _⟩
  · by_cases ht : 0 < th
    · by_cases hs : 33554432 ≤ s
      · rw [show wantF true th v s = 0 from if_pos (.inr ⟨ht, hs⟩)]
        go_enter Try.func24, Try.ntmps24
        go_wp2_with fail
        go_ret
        exact ⟨rfl, Below.refl _ _⟩
      · rw [show wantF true th v s = rmeansV v s from if_neg (by rintro (h | h); cases h; exact hs h.2)]
        go_enter Try.func24, Try.ntmps24
        go_wp2_with fail
        refine (rmeans_any v s _ hv0 hv1 hs0 hs1).mono ?_; rintro e w1 ⟨rfl, hb⟩
        go_wp2_with fail
        go_ret
        exact ⟨rfl, hb⟩
    · rw [show wantF true th v s = rmeansV v s from if_neg (by rintro (h | h); cases h; exact ht h.1)]
      go_enter Try.func24, Try.ntmps24
      go_wp2_with fail
      refine (rmeans_any v s _ hv0 hv1 hs0 hs1).mono ?_; rintro e w1 ⟨rfl, hb⟩
      go_wp2_with fail
      go_ret
      exact ⟨rfl, hb⟩

theorem st_is (ht : t < 8) (hth : th = (t : Int) + 1) : Calls Try.prog 23 #[vL 2 0 8, .int .i64 th] w fun e w' => e = .returned (.int .i64 (t : Int)) ∧ Below w.heap.size w w' := by
  have h := state_yes 2 ((0 : Nat) : Int) 8 th (by omega) (by omega) rt8 w
  have e1 : stateF 8 th = (t : Int) := by unfold stateF; rw [if_pos (by omega)]; omega
  rw [e1] at h
  exact h
theorem counts_is {z0 z1 z2 z3 z4 : Int} (A : Ar w p g n cap c f) (h0 : c 0 = z0) (h1 : c 1 = z1) (h2 : c 2 = z2) (h3 : c 3 = z3) (h4 : c 4 = z4) :
    Calls Try.prog 30 #[.pointer (some ⟨p, 0, none⟩)] w fun e w' => e = .returned (.agg #[.int .i64 z0, .int .i64 z1, .int .i64 z2, .int .i64 z3, .int .i64 z4]) ∧ Below w.heap.size w w' := by
  subst h0 h1 h2 h3 h4
  exact counts_any A
theorem means_want {o y th t0 : Int} (hW : rightW o y th t0 = true) (h0 : 0 < th) (e1 : v / 65536 % 65536 = o) (e2 : v % 65536 = y) (e3 : v / 4294967296 % 256 = th) (e4 : v / 1099511627776 = t0) (_hs : 0 ≤ s) : wantF true th v s = mnS o y th t0 s := by
  unfold wantF mnS
  by_cases hs : s < 33554432
  · rw [if_neg (by rintro (h | h); cases h; omega), if_pos hs]
    have h9 : (th == 0) = false := by rw [beq_eq_false_iff_ne]; omega
    unfold rmeansV meansW
    rw [e1, e2, e3, e4, hW, h9]
    have h8 : ¬ th = 0 := by omega
    by_cases a1 : t0 < s / 2
    · simp [h8, a1]
    · by_cases a2 : s / 2 = t0
      · rcases (by omega : s % 2 = 0 ∨ s % 2 = 1) with a3 | a3
        · simp [h8, a2, a3]
        · simp [h8, a2, a3]
      · simp [h8, a1, a2]
  · rw [if_pos (.inr ⟨h0, by omega⟩), if_neg hs]
theorem plain_want {y : Int} (e2 : v % 65536 = y) (e3 : v / 4294967296 % 256 = 0) : wantF true 0 v s = y := by
  unfold wantF
  rw [if_neg (by rintro (h | h); cases h; omega)]
  unfold rmeansV
  rw [if_pos (.inl e3), e2]
theorem mn_plain {o y t0 : Int} (hI : IsW v o y 0 t0) (hf : f k = v) : mnF f (f k) = y := by
  rw [hf]; unfold mnF; rw [if_pos hI.th, hI.n]
theorem mn_word {o y th t0 : Int} (hI : IsW v o y th t0) (hth : th = (t : Int) + 1) (hf : f k = v) (hs : f t = s) : mnF f (f k) = mnS o y th t0 s := by
  rw [hf]; unfold mnF; rw [if_neg (by rw [hI.th]; omega), hI.o, hI.n, hI.th, hI.tg, show (th - 1).toNat = t by omega, hs]
theorem isW_is {z : Int} (hf : z = v) (hI : IsW v o x th tg) : IsW z o x th tg := by subst hf; exact hI
/-- A block of the beginning. -/
theorem box_cell {v : Value} {ty : TypeId} (hb : Below (w.alloc (.cells #[v] ty)).heap.size (w.alloc (.cells #[v] ty)) W) : W.cell? ⟨w.heap.size, 0, none⟩ = some v ∧ w.heap.size < W.heap.size := by
  have h := (Blk.new w ty #[v]).later hb
  exact ⟨h.cell 0, h.lt⟩
/-- A memory and a lay, in variables of their own. -/
theorem PK.vars2 (h : PK w0 p g m [] c f W) : PK w0 p g m [(W.heap.size + 1, 31, #[.int .i64 2, .int .i64 0, .int .i64 8]), (W.heap.size, 28, #[.pointer (some ⟨p, 0, none⟩)])] c f ((W.alloc (.cells #[.pointer (some ⟨p, 0, none⟩)] 28)).alloc (.cells #[.int .i64 2, .int .i64 0, .int .i64 8] 31)) := by
  have := (h.var (ty := 28) (cs := #[.pointer (some ⟨p, 0, none⟩)]) (by decide) (by decide) (by decide)).var (ty := 31) (cs := #[.int .i64 2, .int .i64 0, .int .i64 8]) (by decide) (by decide) (by decide)
  simpa using this
end

set_option maxHeartbeats 4000000 in
theorem looks_no0 (v st tn o y t0 : Int) (w : World) (hv0 : 0 ≤ v) (hv1 : v ≤ 18446744073709551615) (hs0 : 0 ≤ st) (hs1 : st ≤ 18446744073709551615) (e1 : v / 65536 % 65536 = o) (e2 : v % 65536 = y) (e3 : v / 4294967296 % 256 = 0) (e4 : v / 1099511627776 = t0) (hr : rightV v = false) :
    Calls Try.prog 4 #[.int .u64 v, .int .u64 st, .int .u64 tn] w fun e w' => e = .returned (.bool true) ∧ Below w.heap.size w w' := by
  have HI := Lib.hid (isW_bad hr)
  have HMN : Hid (∀ f : Nat → Int, mnF f v = 0) := Lib.hid (fun f => by unfold mnF; rw [if_pos HI.out.th, HI.out.n])
  have HWS : Hid (wantF false 0 v st = 0) := Lib.hid (if_pos (.inl rfl))
  have HRW : Hid (rightW o y 0 t0 = false) := Lib.hid (by have := hr; unfold rightV at this; rw [e1, e2, e3, e4] at this; exact this)
  have HE := Lib.hid (And.intro e1 (And.intro e2 (And.intro e3 e4)))
  clear e1 e2 e3 e4 hr
  go_enter Try.func4, Try.ntmps4
  go_wp2_with fail
  have HB0 : Hid (Below w.heap.size w (w.alloc (.cells #[.int .u64 v] 37))) := Lib.hid ((Below.refl _ _).alloc (Nat.le_refl _) _)
  generalize hw0 : w.alloc (.cells #[.int .u64 v] 37) = w0 at HB0 ⊢
  have HW0 := Lib.hid hw0
  clear hw0
  refine begun_any.mono ?_; rintro e w1 ⟨p, g, rfl, np, ng, A1, hb⟩
  have HP0 := Lib.hid (PK.first A1 cb_zero hb np ng)
  clear A1 np ng hb
  go_wp2_with fail
  refine (pm_of p _).mono ?_; rintro e w1 ⟨rfl, hb⟩
  have HP1 := Lib.hid (HP0.out.below hb)
  clear hb
  go_wp2_with fail
  refine (small_any).mono ?_; rintro e w2 ⟨rfl, hb⟩
  have HP2 := Lib.hid (HP1.out.below hb)
  clear hb
  have HP3 := Lib.hid HP2.out.vars2
  have HQ0 := HP3.out.np
  go_wp2_with fail
  generalize (w2.alloc (.cells #[.pointer (some ⟨p, 0, none⟩)] 28)).alloc (.cells #[.int .i64 2, .int .i64 0, .int .i64 8] 31) = wv at HP3 ⊢
  generalize w2.heap.size = mb at HP3 ⊢
  clear HQ0
  go_wp2_with fail
  have HPd := Lib.hid HP3.out.drew
  have hvs : ∀ W, KS w0 [(mb + 1, 31, #[.int .i64 2, .int .i64 0, .int .i64 8]), (mb, 28, #[.pointer (some ⟨p, 0, none⟩)])] W → W.cell? ⟨mb + 1, 0, none⟩ = some (.int .i64 2) ∧ W.cell? ⟨mb + 1, 1, none⟩ = some (.int .i64 0) ∧ W.cell? ⟨mb + 1, 2, none⟩ = some (.int .i64 8) ∧ W.cell? ⟨mb, 0, none⟩ = some (.pointer (some ⟨p, 0, none⟩)) ∧ W.cell? ⟨w.heap.size, 0, none⟩ = some (.int .u64 v) := fun W h => ⟨h.k.1.b.cell 0, h.k.1.b.cell 1, h.k.1.b.cell 2, h.k.2.1.b.cell 0, (box_cell (HW0.out ▸ h.be)).1⟩
  go_region_held3 (KS w0 [(mb + 1, 31, #[.int .i64 2, .int .i64 0, .int .i64 8]), (mb, 28, #[.pointer (some ⟨p, 0, none⟩)])]) (first | (with_reducible assumption) | (with_reducible exact HPd.out.ks) | (with_reducible exact HPt.out.ks) | (with_reducible exact HP4.out.ks))
    (first
      | (go_at_call 12; ((with_reducible refine at_0.mono ?_); rintro e wt ⟨rfl, hb⟩; have HPt := Lib.hid (HPd.out.below hb); clear hb))
      | (go_at_call 11; ((with_reducible refine (store_yes HPt.out.ar (atK_lt (by omega)) hv0 hv1 HPt.out.cb (by omega)).mono ?_); rintro e w4 ⟨rfl, A5, O5⟩; have HP4 := Lib.hid (HPt.out.arena A5 (HPt.out.cb.upd 1) O5); clear A5 O5)))
  clear hvs
  clear HPd HPt
  obtain ⟨lb0, lb1, lb2, lbl⟩ := HP4.out.ks.k.1.cells3
  obtain ⟨mb0, mbl⟩ := HP4.out.ks.k.2.1.cells1
  obtain ⟨vb0, vbl⟩ := box_cell (HW0.out ▸ HP4.out.be)
  go_wp2_with fail
  refine (rparts_is hv0 hv1 HE.out.1 HE.out.2.1 HE.out.2.2.1 HE.out.2.2.2).mono ?_; rintro e w5 ⟨rfl, hb⟩
  have HP5 := Lib.hid (HP4.out.below hb)
  clear hb
  clear vb0 vbl lb0 lb1 lb2 lbl mb0 mbl
  go_wp2_with fail
  have HP6 := Lib.hid (HP5.out.var (ty := 56) (cs := #[.int .i64 o, .int .i64 y, .int .i64 0, .int .i64 t0]) (by decide) (by decide) (by decide))
  generalize w5.alloc (.cells #[.int .i64 o, .int .i64 y, .int .i64 0, .int .i64 t0] 56) = wx at HP6 ⊢
  generalize w5.heap.size = wb at HP6 ⊢
  refine (wrright_is HRW.out).mono ?_; rintro e w7 ⟨rfl, hb⟩
  have HP7 := Lib.hid (HP6.out.below hb)
  clear hb
  obtain ⟨wb0, wb1, wb2, wb3, wbl⟩ := HP7.out.ks.k.1.cells4
  obtain ⟨lb0, lb1, lb2, lbl⟩ := HP7.out.ks.k.2.1.cells3
  obtain ⟨mb0, mbl⟩ := HP7.out.ks.k.2.2.1.cells1
  obtain ⟨vb0, vbl⟩ := box_cell (HW0.out ▸ HP7.out.be)
  go_wp2_with fail
  clear vb0 vbl wb0 wb1 wb2 wb3 wbl lb0 lb1 lb2 lbl mb0 mbl
  have HP8 := Lib.hid (HP7.out.var (ty := 4) (cs := #[.bool false]) (by decide) (by decide) (by decide))
  generalize w7.alloc (.cells #[.bool false] 4) = wy at HP8 ⊢
  generalize w7.heap.size = rb at HP8 ⊢
  have HF : Hid ((upd zeroF (atK 0) v) (atK 0) = v) := Lib.hid (upd_same _ _ _)
  go_wp2_with fail
  have HPd := Lib.hid HP8.out.drew
  have hvs : ∀ W, KS w0 [(rb, 4, #[.bool false]), (wb, 56, #[.int .i64 o, .int .i64 y, .int .i64 0, .int .i64 t0]), (mb + 1, 31, #[.int .i64 2, .int .i64 0, .int .i64 8]), (mb, 28, #[.pointer (some ⟨p, 0, none⟩)])] W → W.cell? ⟨rb, 0, none⟩ = some (.bool false) ∧ W.cell? ⟨wb, 0, none⟩ = some (.int .i64 o) ∧ W.cell? ⟨wb, 1, none⟩ = some (.int .i64 y) ∧ W.cell? ⟨wb, 2, none⟩ = some (.int .i64 0) ∧ W.cell? ⟨wb, 3, none⟩ = some (.int .i64 t0) ∧ W.cell? ⟨mb + 1, 0, none⟩ = some (.int .i64 2) ∧ W.cell? ⟨mb + 1, 1, none⟩ = some (.int .i64 0) ∧ W.cell? ⟨mb + 1, 2, none⟩ = some (.int .i64 8) ∧ W.cell? ⟨mb, 0, none⟩ = some (.pointer (some ⟨p, 0, none⟩)) ∧ W.cell? ⟨w.heap.size, 0, none⟩ = some (.int .u64 v) := fun W h => ⟨h.k.1.b.cell 0, h.k.2.1.b.cell 0, h.k.2.1.b.cell 1, h.k.2.1.b.cell 2, h.k.2.1.b.cell 3, h.k.2.2.1.b.cell 0, h.k.2.2.1.b.cell 1, h.k.2.2.1.b.cell 2, h.k.2.2.2.1.b.cell 0, (box_cell (HW0.out ▸ h.be)).1⟩
  go_region_held3 (KS w0 [(rb, 4, #[.bool false]), (wb, 56, #[.int .i64 o, .int .i64 y, .int .i64 0, .int .i64 t0]), (mb + 1, 31, #[.int .i64 2, .int .i64 0, .int .i64 8]), (mb, 28, #[.pointer (some ⟨p, 0, none⟩)])]) (first | (with_reducible assumption) | (with_reducible exact HPd.out.ks) | (with_reducible exact HPt.out.ks) | (with_reducible exact HP9.out.ks))
    (first
      | (go_at_call 12; ((with_reducible refine at_0.mono ?_); rintro e wt ⟨rfl, hb⟩; have HPt := Lib.hid (HPd.out.below hb); clear hb))
      | (go_at_call 26; ((with_reducible refine look_8.mono ?_); rintro e w9 ⟨q, rfl, hq, L5, hb⟩; have HP9 := Lib.hid (HPt.out.below hb); have HL9 := Lib.hid L5; have HQ := Lib.hid (Nat.le_trans HPt.out.be.size hq); clear L5 hq hb)))
  clear hvs
  clear HPd HPt
  go_wp2_with fail
  have HPd := Lib.hid HP9.out.drew
  have HLd := Lib.hid HL9.out.drew
  have hvs : ∀ W, KS w0 [(rb, 4, #[.bool false]), (wb, 56, #[.int .i64 o, .int .i64 y, .int .i64 0, .int .i64 t0]), (mb + 1, 31, #[.int .i64 2, .int .i64 0, .int .i64 8]), (mb, 28, #[.pointer (some ⟨p, 0, none⟩)])] W → W.cell? ⟨rb, 0, none⟩ = some (.bool false) ∧ W.cell? ⟨wb, 0, none⟩ = some (.int .i64 o) ∧ W.cell? ⟨wb, 1, none⟩ = some (.int .i64 y) ∧ W.cell? ⟨wb, 2, none⟩ = some (.int .i64 0) ∧ W.cell? ⟨wb, 3, none⟩ = some (.int .i64 t0) ∧ W.cell? ⟨mb + 1, 0, none⟩ = some (.int .i64 2) ∧ W.cell? ⟨mb + 1, 1, none⟩ = some (.int .i64 0) ∧ W.cell? ⟨mb + 1, 2, none⟩ = some (.int .i64 8) ∧ W.cell? ⟨mb, 0, none⟩ = some (.pointer (some ⟨p, 0, none⟩)) ∧ W.cell? ⟨w.heap.size, 0, none⟩ = some (.int .u64 v) := fun W h => ⟨h.k.1.b.cell 0, h.k.2.1.b.cell 0, h.k.2.1.b.cell 1, h.k.2.1.b.cell 2, h.k.2.1.b.cell 3, h.k.2.2.1.b.cell 0, h.k.2.2.1.b.cell 1, h.k.2.2.1.b.cell 2, h.k.2.2.2.1.b.cell 0, (box_cell (HW0.out ▸ h.be)).1⟩
  go_region_held3 (KS w0 [(rb, 4, #[.bool false]), (wb, 56, #[.int .i64 o, .int .i64 y, .int .i64 0, .int .i64 t0]), (mb + 1, 31, #[.int .i64 2, .int .i64 0, .int .i64 8]), (mb, 28, #[.pointer (some ⟨p, 0, none⟩)])]) (first | (with_reducible assumption) | (with_reducible exact HPd.out.ks) | (with_reducible exact HPt.out.ks) | (with_reducible exact HPm.out.ks) | (with_reducible exact HP10.out.ks))
    (first
      | (go_at_call 27; ((with_reducible refine (look_done HLd.out).mono ?_); rintro e wo ⟨rfl, rfl⟩))
      | (go_at_call 28; ((with_reducible refine (look_value HLd.out).mono ?_); rintro e wo ⟨rfl, rfl⟩))
      | (go_at_call 12; ((with_reducible refine at_0.mono ?_); rintro e wt ⟨rfl, hb⟩; have HPt := Lib.hid (HPd.out.below hb); have HLt := Lib.hid (HLd.out.later hb); clear hb))
      | (go_at_call 19; ((with_reducible refine (Means_8 HPt.out.ar (atK_lt (by omega)) ((congrArg (mnF _) HF.out).trans (HMN.out _)) HPt.out.cb (by omega)).mono ?_); rintro e wm ⟨rfl, c5, A5, C5, _, O5⟩; have HPm := Lib.hid (HPt.out.arena A5 C5 O5); have HLm := Lib.hid (HLt.out.arena HPt.out.ar O5); clear A5 C5 O5))
      | (go_at_call 24; ((with_reducible refine (wantC_is HPm.out.ks.k.hd.cells1.1 HPm.out.ks.k.tl.hd.cells4.2.2.1 (box_cell (HW0.out ▸ HPm.out.be)).1 hv0 hv1 hs0 hs1 HWS.out).mono ?_); rintro e w10 ⟨rfl, hb⟩; have HP10 := Lib.hid (HPm.out.below hb); have HL10 := Lib.hid (HLm.out.later hb); clear hb)))
  clear hvs
  clear HPd HPt HPm HLd HLt HLm
  have HIF := Lib.hid (isW_is HF.out HI.out)
  have HWS2 := HWS
  go_wp2_with fail
  have HPd := Lib.hid HP10.out.drew
  have HLd := Lib.hid HL10.out.drew
  have hvs : ∀ W, KS w0 [(rb, 4, #[.bool false]), (wb, 56, #[.int .i64 o, .int .i64 y, .int .i64 0, .int .i64 t0]), (mb + 1, 31, #[.int .i64 2, .int .i64 0, .int .i64 8]), (mb, 28, #[.pointer (some ⟨p, 0, none⟩)])] W → W.cell? ⟨rb, 0, none⟩ = some (.bool false) ∧ W.cell? ⟨wb, 0, none⟩ = some (.int .i64 o) ∧ W.cell? ⟨wb, 1, none⟩ = some (.int .i64 y) ∧ W.cell? ⟨wb, 2, none⟩ = some (.int .i64 0) ∧ W.cell? ⟨wb, 3, none⟩ = some (.int .i64 t0) ∧ W.cell? ⟨mb + 1, 0, none⟩ = some (.int .i64 2) ∧ W.cell? ⟨mb + 1, 1, none⟩ = some (.int .i64 0) ∧ W.cell? ⟨mb + 1, 2, none⟩ = some (.int .i64 8) ∧ W.cell? ⟨mb, 0, none⟩ = some (.pointer (some ⟨p, 0, none⟩)) ∧ W.cell? ⟨w.heap.size, 0, none⟩ = some (.int .u64 v) := fun W h => ⟨h.k.1.b.cell 0, h.k.2.1.b.cell 0, h.k.2.1.b.cell 1, h.k.2.1.b.cell 2, h.k.2.1.b.cell 3, h.k.2.2.1.b.cell 0, h.k.2.2.1.b.cell 1, h.k.2.2.1.b.cell 2, h.k.2.2.2.1.b.cell 0, (box_cell (HW0.out ▸ h.be)).1⟩
  refine wp_region_held_drew (S := KS w0 [(rb, 4, #[.bool false]), (wb, 56, #[.int .i64 o, .int .i64 y, .int .i64 0, .int .i64 t0]), (mb + 1, 31, #[.int .i64 2, .int .i64 0, .int .i64 8]), (mb, 28, #[.pointer (some ⟨p, 0, none⟩)])]) (by kernel_rfl) ?_ (fun hHeld => ?_)
  · exact HPd.out.ks
  refine wpAnyH_take (i := 0) (v := ?_) rfl (by kernel_rfl) (by kernel_rfl) (by kernel_rfl) (fun _ _ _ h => h) (Or.inl ⟨by rfl, ?_⟩) (by assumption) ?_
  rotate_left
  · (intro w hSw; (try dsimp only at hSw); go_simp; try with_reducible rfl)
  try simp only [Act.put, List.setIfInBounds_toArray, List.set_cons_zero, List.set_cons_succ, List.getElem_toArray, List.getElem_cons_zero]
  refine wpAnyH_take (i := 1) (v := ?_) rfl (by kernel_rfl) (by kernel_rfl) (by kernel_rfl) (fun _ _ _ h => h) (Or.inl ⟨by rfl, ?_⟩) (by assumption) ?_
  rotate_left
  · (intro w hSw; (try dsimp only at hSw); go_simp; try with_reducible rfl)
  try simp only [Act.put, List.setIfInBounds_toArray, List.set_cons_zero, List.set_cons_succ, List.getElem_toArray, List.getElem_cons_zero, List.getElem_cons_succ]
  refine wpAnyH_take (i := 3) (v := ?_) rfl (by kernel_rfl) (by kernel_rfl) (by kernel_rfl) (fun _ _ _ h => h) (Or.inl ⟨by rfl, ?_⟩) (by assumption) ?_
  rotate_left
  · (intro w hSw; (try dsimp only at hSw); go_simp; try with_reducible rfl)
  try simp only [Act.put, List.setIfInBounds_toArray, List.set_cons_zero, List.set_cons_succ, List.getElem_toArray, List.getElem_cons_zero, List.getElem_cons_succ]
  refine wpAnyH_take (i := 4) (v := ?_) rfl (by kernel_rfl) (by kernel_rfl) (by kernel_rfl) (fun _ _ _ h => h) (Or.inl ⟨by rfl, ?_⟩) (by assumption) ?_
  rotate_left
  · (intro w hSw; (try dsimp only at hSw); go_simp; try with_reducible rfl)
  try simp only [Act.put, List.setIfInBounds_toArray, List.set_cons_zero, List.set_cons_succ, List.getElem_toArray, List.getElem_cons_zero, List.getElem_cons_succ]
  refine wpAnyH_ready (rs := [2]) (by kernel_rfl) (by simp) ?_
  refine AllReadyH.cons rfl (fun K hK => ?_) ?_
  rotate_left
  · exact AllReadyH.nil
  go_simp
  (go_at_call 29; ((with_reducible refine (look_0plain HPd.out.ar HLd.out (atK_lt (by omega)) HIF.out HPd.out.cb (by omega)).mono ?_); rintro e w11 ⟨rfl, A5, L5, O5⟩; have HP11 := Lib.hid (HPd.out.look HLd.out HQ.out A5 (HPd.out.cb.upd 0) O5); have HL11 := Lib.hid L5; clear A5 L5 O5))
  go_wp2_with fail
  refine hK.out _ _ ?_ (fun hHeld => ?_)
  · (try dsimp only); first | (with_reducible assumption) | (with_reducible exact HPd.out.ks) | (with_reducible exact HP11.out.ks)
  clear hK K
  try simp only [Act.put, List.setIfInBounds_toArray, List.set_cons_zero, List.set_cons_succ, List.getElem_toArray, List.getElem_cons_zero, List.getElem_cons_succ]
  refine wpAnyH_take (i := 5) (v := ?_) rfl (by kernel_rfl) (by kernel_rfl) (by kernel_rfl) (fun _ _ _ h => h) (Or.inl ⟨by rfl, ?_⟩) (by assumption) ?_
  rotate_left
  · (intro w hSw; (try dsimp only at hSw); go_simp; try with_reducible rfl)
  try simp only [Act.put, List.setIfInBounds_toArray, List.set_cons_zero, List.set_cons_succ, List.getElem_toArray, List.getElem_cons_zero, List.getElem_cons_succ]
  refine wpAnyH_take (i := 6) rfl (by kernel_rfl) (by kernel_rfl) (by kernel_rfl) (fun _ _ _ h => h) (Or.inr ⟨by rfl, rfl⟩) (by assumption) ?_
  try simp only [Act.put, List.setIfInBounds_toArray, List.set_cons_zero, List.set_cons_succ, List.getElem_toArray, List.getElem_cons_zero, List.getElem_cons_succ]
  refine wpAnyH_take (i := 7) rfl (by kernel_rfl) (by kernel_rfl) (by kernel_rfl) (fun _ _ _ h => h) (Or.inr ⟨by rfl, rfl⟩) (by assumption) ?_
  try simp only [Act.put, List.setIfInBounds_toArray, List.set_cons_zero, List.set_cons_succ, List.getElem_toArray, List.getElem_cons_zero, List.getElem_cons_succ]
  refine wpAnyH_take (i := 8) rfl (by kernel_rfl) (by kernel_rfl) (by kernel_rfl) (fun _ _ _ h => h) (Or.inr ⟨by rfl, rfl⟩) (by assumption) ?_
  try simp only [Act.put, List.setIfInBounds_toArray, List.set_cons_zero, List.set_cons_succ, List.getElem_toArray, List.getElem_cons_zero, List.getElem_cons_succ]
  refine wpAnyH_take (i := 9) (v := ?_) rfl (by kernel_rfl) (by kernel_rfl) (by kernel_rfl) (fun _ _ _ h => h) (Or.inl ⟨by rfl, ?_⟩) (by assumption) ?_
  rotate_left
  · (intro w hSw; (try dsimp only at hSw); go_simp; try with_reducible rfl)
  try simp only [Act.put, List.setIfInBounds_toArray, List.set_cons_zero, List.set_cons_succ, List.getElem_toArray, List.getElem_cons_zero, List.getElem_cons_succ]
  refine wpAnyH_take (i := 10) (v := ?_) rfl (by kernel_rfl) (by kernel_rfl) (by kernel_rfl) (fun _ _ _ h => h) (Or.inl ⟨by rfl, ?_⟩) (by assumption) ?_
  rotate_left
  · (intro w hSw; (try dsimp only at hSw); go_simp; try with_reducible rfl)
  try simp only [Act.put, List.setIfInBounds_toArray, List.set_cons_zero, List.set_cons_succ, List.getElem_toArray, List.getElem_cons_zero, List.getElem_cons_succ]
  refine wpAnyH_done (by kernel_rfl) ?_ _
  clear hvs
  clear HPd HLd
  obtain ⟨rb0, rbl⟩ := HP11.out.ks.k.1.cells1
  obtain ⟨wb0, wb1, wb2, wb3, wbl⟩ := HP11.out.ks.k.2.1.cells4
  obtain ⟨lb0, lb1, lb2, lbl⟩ := HP11.out.ks.k.2.2.1.cells3
  obtain ⟨mb0, mbl⟩ := HP11.out.ks.k.2.2.2.1.cells1
  obtain ⟨vb0, vbl⟩ := box_cell (HW0.out ▸ HP11.out.be)
  obtain ⟨cc, ff, HPc⟩ : ∃ cc ff, Hid (PK w0 p g _ [(rb, 4, #[.bool false]), (wb, 56, #[.int .i64 o, .int .i64 y, .int .i64 0, .int .i64 t0]), (mb + 1, 31, #[.int .i64 2, .int .i64 0, .int .i64 8]), (mb, 28, #[.pointer (some ⟨p, 0, none⟩)])] cc ff _) := ⟨_, _, HP11⟩
  obtain ⟨z0, hz0⟩ : ∃ z, cc 0 = z := ⟨_, rfl⟩
  obtain ⟨z1, hz1⟩ : ∃ z, cc 1 = z := ⟨_, rfl⟩
  obtain ⟨z2, hz2⟩ : ∃ z, cc 2 = z := ⟨_, rfl⟩
  obtain ⟨z3, hz3⟩ : ∃ z, cc 3 = z := ⟨_, rfl⟩
  obtain ⟨z4, hz4⟩ : ∃ z, cc 4 = z := ⟨_, rfl⟩
  have HZ := Lib.hid (And.intro hz0 (And.intro hz1 (And.intro hz2 (And.intro hz3 hz4))))
  clear hz0 hz1 hz2 hz3 hz4
  go_wp2_with fail
  refine (counts_is HPc.out.ar HZ.out.1 HZ.out.2.1 HZ.out.2.2.1 HZ.out.2.2.2.1 HZ.out.2.2.2.2).mono ?_; rintro e w12 ⟨rfl, hb⟩
  have HP12 := Lib.hid (HPc.out.below hb)
  have HL12 := Lib.hid (HL11.out.later hb)
  clear hb
  clear vb0 vbl rb0 rbl wb0 wb1 wb2 wb3 wbl lb0 lb1 lb2 lbl mb0 mbl
  go_wp2_with fail
  have HP13 := Lib.hid (HP12.out.var (ty := 66) (cs := #[.int .i64 z0, .int .i64 z1, .int .i64 z2, .int .i64 z3, .int .i64 z4]) (by decide) (by decide) (by decide))
  have HL13 := Lib.hid (HL12.out.alloc (.cells #[.int .i64 z0, .int .i64 z1, .int .i64 z2, .int .i64 z3, .int .i64 z4] 66))
  generalize w12.alloc (.cells #[.int .i64 z0, .int .i64 z1, .int .i64 z2, .int .i64 z3, .int .i64 z4] 66) = wn at HP13 HL13 ⊢
  generalize w12.heap.size = nb at HP13 ⊢
  go_wp2_with fail
  have HPd := Lib.hid HP13.out.drew
  have HLd := Lib.hid HL13.out.drew
  have hvs : ∀ W, KS w0 [(nb, 66, #[.int .i64 z0, .int .i64 z1, .int .i64 z2, .int .i64 z3, .int .i64 z4]), (rb, 4, #[.bool false]), (wb, 56, #[.int .i64 o, .int .i64 y, .int .i64 0, .int .i64 t0]), (mb + 1, 31, #[.int .i64 2, .int .i64 0, .int .i64 8]), (mb, 28, #[.pointer (some ⟨p, 0, none⟩)])] W → W.cell? ⟨nb, 0, none⟩ = some (.int .i64 z0) ∧ W.cell? ⟨nb, 1, none⟩ = some (.int .i64 z1) ∧ W.cell? ⟨nb, 2, none⟩ = some (.int .i64 z2) ∧ W.cell? ⟨nb, 3, none⟩ = some (.int .i64 z3) ∧ W.cell? ⟨nb, 4, none⟩ = some (.int .i64 z4) ∧ W.cell? ⟨rb, 0, none⟩ = some (.bool false) ∧ W.cell? ⟨wb, 0, none⟩ = some (.int .i64 o) ∧ W.cell? ⟨wb, 1, none⟩ = some (.int .i64 y) ∧ W.cell? ⟨wb, 2, none⟩ = some (.int .i64 0) ∧ W.cell? ⟨wb, 3, none⟩ = some (.int .i64 t0) ∧ W.cell? ⟨mb + 1, 0, none⟩ = some (.int .i64 2) ∧ W.cell? ⟨mb + 1, 1, none⟩ = some (.int .i64 0) ∧ W.cell? ⟨mb + 1, 2, none⟩ = some (.int .i64 8) ∧ W.cell? ⟨mb, 0, none⟩ = some (.pointer (some ⟨p, 0, none⟩)) ∧ W.cell? ⟨w.heap.size, 0, none⟩ = some (.int .u64 v) := fun W h => ⟨h.k.1.b.cell 0, h.k.1.b.cell 1, h.k.1.b.cell 2, h.k.1.b.cell 3, h.k.1.b.cell 4, h.k.2.1.b.cell 0, h.k.2.2.1.b.cell 0, h.k.2.2.1.b.cell 1, h.k.2.2.1.b.cell 2, h.k.2.2.1.b.cell 3, h.k.2.2.2.1.b.cell 0, h.k.2.2.2.1.b.cell 1, h.k.2.2.2.1.b.cell 2, h.k.2.2.2.2.1.b.cell 0, (box_cell (HW0.out ▸ h.be)).1⟩
  refine wp_region_held_drew (S := KS w0 [(nb, 66, #[.int .i64 z0, .int .i64 z1, .int .i64 z2, .int .i64 z3, .int .i64 z4]), (rb, 4, #[.bool false]), (wb, 56, #[.int .i64 o, .int .i64 y, .int .i64 0, .int .i64 t0]), (mb + 1, 31, #[.int .i64 2, .int .i64 0, .int .i64 8]), (mb, 28, #[.pointer (some ⟨p, 0, none⟩)])]) (by kernel_rfl) ?_ (fun hHeld => ?_)
  · exact HPd.out.ks
  refine wpAnyH_take (i := 0) (v := ?_) rfl (by kernel_rfl) (by kernel_rfl) (by kernel_rfl) (fun _ _ _ h => h) (Or.inl ⟨by rfl, ?_⟩) (by assumption) ?_
  rotate_left
  · (intro w hSw; (try dsimp only at hSw); go_simp; try with_reducible rfl)
  try simp only [Act.put, List.setIfInBounds_toArray, List.set_cons_zero, List.set_cons_succ, List.getElem_toArray, List.getElem_cons_zero]
  refine wpAnyH_ready (rs := [1]) (by kernel_rfl) (by simp) ?_
  refine AllReadyH.cons rfl (fun K hK => ?_) ?_
  rotate_left
  · exact AllReadyH.nil
  go_simp
  (go_at_call 27; ((with_reducible refine (look_done HLd.out).mono ?_); rintro e wo ⟨rfl, rfl⟩))
  go_wp2_with fail
  refine hK.out _ _ ?_ (fun hHeld => ?_)
  · (try dsimp only); first | (with_reducible assumption) | (with_reducible exact HPd.out.ks) | (with_reducible exact HPs.out.ks) | (with_reducible exact HPc2.out.ks) | (with_reducible exact HPz.out.ks) | (with_reducible exact HPa.out.ks)
  clear hK K
  try simp only [Act.put, List.setIfInBounds_toArray, List.set_cons_zero, List.set_cons_succ, List.getElem_toArray, List.getElem_cons_zero, List.getElem_cons_succ]
  refine wpAnyH_take (i := 2) (v := ?_) rfl (by kernel_rfl) (by kernel_rfl) (by kernel_rfl) (fun _ _ _ h => h) (Or.inl ⟨by rfl, ?_⟩) (by assumption) ?_
  rotate_left
  · (intro w hSw; (try dsimp only at hSw); go_simp; try with_reducible rfl)
  try simp only [Act.put, List.setIfInBounds_toArray, List.set_cons_zero, List.set_cons_succ, List.getElem_toArray, List.getElem_cons_zero, List.getElem_cons_succ]
  refine wpAnyH_take (i := 3) (v := ?_) rfl (by kernel_rfl) (by kernel_rfl) (by kernel_rfl) (fun _ _ _ h => h) (Or.inl ⟨by rfl, ?_⟩) (by assumption) ?_
  rotate_left
  · (intro w hSw; (try dsimp only at hSw); go_simp; try with_reducible rfl)
  try simp only [Act.put, List.setIfInBounds_toArray, List.set_cons_zero, List.set_cons_succ, List.getElem_toArray, List.getElem_cons_zero, List.getElem_cons_succ]
  refine wpAnyH_take (i := 4) (v := ?_) rfl (by kernel_rfl) (by kernel_rfl) (by kernel_rfl) (fun _ _ _ h => h) (Or.inl ⟨by rfl, ?_⟩) (by assumption) ?_
  rotate_left
  · (intro w hSw; (try dsimp only at hSw); go_simp; try with_reducible rfl)
  try simp only [Act.put, List.setIfInBounds_toArray, List.set_cons_zero, List.set_cons_succ, List.getElem_toArray, List.getElem_cons_zero, List.getElem_cons_succ]
  refine wpAnyH_ready (rs := [5]) (by kernel_rfl) (by simp) ?_
  refine AllReadyH.cons rfl (fun K hK => ?_) ?_
  rotate_left
  · exact AllReadyH.nil
  go_simp
  (go_at_call 29; ((with_reducible refine (look_2 HLd.out).mono ?_); rintro e ws ⟨rfl, hb⟩; have HPs := Lib.hid (HPd.out.below hb); have HLs := Lib.hid (HLd.out.later hb); clear hb))
  go_wp2_with fail
  refine hK.out _ _ ?_ (fun hHeld => ?_)
  · (try dsimp only); first | (with_reducible assumption) | (with_reducible exact HPd.out.ks) | (with_reducible exact HPs.out.ks) | (with_reducible exact HPc2.out.ks) | (with_reducible exact HPz.out.ks) | (with_reducible exact HPa.out.ks)
  clear hK K
  try simp only [Act.put, List.setIfInBounds_toArray, List.set_cons_zero, List.set_cons_succ, List.getElem_toArray, List.getElem_cons_zero, List.getElem_cons_succ]
  refine wpAnyH_take (i := 6) (v := ?_) rfl (by kernel_rfl) (by kernel_rfl) (by kernel_rfl) (fun _ _ _ h => h) (Or.inl ⟨by rfl, ?_⟩) (by assumption) ?_
  rotate_left
  · (intro w hSw; (try dsimp only at hSw); go_simp; try with_reducible rfl)
  try simp only [Act.put, List.setIfInBounds_toArray, List.set_cons_zero, List.set_cons_succ, List.getElem_toArray, List.getElem_cons_zero, List.getElem_cons_succ]
  refine wpAnyH_take (i := 7) (v := ?_) rfl (by kernel_rfl) (by kernel_rfl) (by kernel_rfl) (fun _ _ _ h => h) (Or.inl ⟨by rfl, ?_⟩) (by assumption) ?_
  rotate_left
  · (intro w hSw; (try dsimp only at hSw); go_simp; try with_reducible rfl)
  try simp only [Act.put, List.setIfInBounds_toArray, List.set_cons_zero, List.set_cons_succ, List.getElem_toArray, List.getElem_cons_zero, List.getElem_cons_succ]
  refine wpAnyH_take (i := 8) (v := ?_) rfl (by kernel_rfl) (by kernel_rfl) (by kernel_rfl) (fun _ _ _ h => h) (Or.inl ⟨by rfl, ?_⟩) (by assumption) ?_
  rotate_left
  · (intro w hSw; (try dsimp only at hSw); go_simp; try with_reducible rfl)
  try simp only [Act.put, List.setIfInBounds_toArray, List.set_cons_zero, List.set_cons_succ, List.getElem_toArray, List.getElem_cons_zero, List.getElem_cons_succ]
  refine wpAnyH_take (i := 10) (v := ?_) rfl (by kernel_rfl) (by kernel_rfl) (by kernel_rfl) (fun _ _ _ h => h) (Or.inl ⟨by rfl, ?_⟩) (by assumption) ?_
  rotate_left
  · (intro w hSw; (try dsimp only at hSw); go_simp; try with_reducible rfl)
  try simp only [Act.put, List.setIfInBounds_toArray, List.set_cons_zero, List.set_cons_succ, List.getElem_toArray, List.getElem_cons_zero, List.getElem_cons_succ]
  refine wpAnyH_ready (rs := [9]) (by kernel_rfl) (by simp) ?_
  refine AllReadyH.cons rfl (fun K hK => ?_) ?_
  rotate_left
  · exact AllReadyH.nil
  go_simp
  (go_at_call 30; ((with_reducible refine (counts_is HPs.out.ar HZ.out.1 HZ.out.2.1 HZ.out.2.2.1 HZ.out.2.2.2.1 HZ.out.2.2.2.2).mono ?_); rintro e wc ⟨rfl, hb⟩; have HPc2 := Lib.hid (HPs.out.below hb); have HLc := Lib.hid (HLs.out.later hb); clear hb))
  go_wp2_with fail
  refine hK.out _ _ ?_ (fun hHeld => ?_)
  · (try dsimp only); first | (with_reducible assumption) | (with_reducible exact HPd.out.ks) | (with_reducible exact HPs.out.ks) | (with_reducible exact HPc2.out.ks) | (with_reducible exact HPz.out.ks) | (with_reducible exact HPa.out.ks)
  clear hK K
  try simp only [Act.put, List.setIfInBounds_toArray, List.set_cons_zero, List.set_cons_succ, List.getElem_toArray, List.getElem_cons_zero, List.getElem_cons_succ]
  refine wpAnyH_take (i := 11) (v := ?_) rfl (by kernel_rfl) (by kernel_rfl) (by kernel_rfl) (fun _ _ _ h => h) (Or.inl ⟨by rfl, ?_⟩) (by assumption) ?_
  rotate_left
  · (intro w hSw; (try dsimp only at hSw); go_simp; try with_reducible rfl)
  try simp only [Act.put, List.setIfInBounds_toArray, List.set_cons_zero, List.set_cons_succ, List.getElem_toArray, List.getElem_cons_zero, List.getElem_cons_succ]
  refine wpAnyH_take (i := 12) (v := ?_) rfl (by kernel_rfl) (by kernel_rfl) (by kernel_rfl) (fun _ _ _ h => h) (Or.inl ⟨by rfl, ?_⟩) (by assumption) ?_
  rotate_left
  · (intro w hSw; (try dsimp only at hSw); go_simp; try with_reducible rfl)
  try simp only [Act.put, List.setIfInBounds_toArray, List.set_cons_zero, List.set_cons_succ, List.getElem_toArray, List.getElem_cons_zero, List.getElem_cons_succ]
  refine wpAnyH_take (i := 13) (v := ?_) rfl (by kernel_rfl) (by kernel_rfl) (by kernel_rfl) (fun _ _ _ h => h) (Or.inl ⟨by rfl, ?_⟩) (by assumption) ?_
  rotate_left
  · (intro w hSw; (try dsimp only at hSw); go_simp; try with_reducible rfl)
  try simp only [Act.put, List.setIfInBounds_toArray, List.set_cons_zero, List.set_cons_succ, List.getElem_toArray, List.getElem_cons_zero, List.getElem_cons_succ]
  refine wpAnyH_take (i := 14) (v := ?_) rfl (by kernel_rfl) (by kernel_rfl) (by kernel_rfl) (fun _ _ _ h => h) (Or.inl ⟨by rfl, ?_⟩) (by assumption) ?_
  rotate_left
  · (intro w hSw; (try dsimp only at hSw); go_simp; try with_reducible rfl)
  try simp only [Act.put, List.setIfInBounds_toArray, List.set_cons_zero, List.set_cons_succ, List.getElem_toArray, List.getElem_cons_zero, List.getElem_cons_succ]
  refine wpAnyH_take (i := 15) (v := ?_) rfl (by kernel_rfl) (by kernel_rfl) (by kernel_rfl) (fun _ _ _ h => h) (Or.inl ⟨by rfl, ?_⟩) (by assumption) ?_
  rotate_left
  · (intro w hSw; (try dsimp only at hSw); go_simp; try with_reducible rfl)
  try simp only [Act.put, List.setIfInBounds_toArray, List.set_cons_zero, List.set_cons_succ, List.getElem_toArray, List.getElem_cons_zero, List.getElem_cons_succ]
  refine wpAnyH_take (i := 16) (v := ?_) rfl (by kernel_rfl) (by kernel_rfl) (by kernel_rfl) (fun _ _ _ h => h) (Or.inl ⟨by rfl, ?_⟩) (by assumption) ?_
  rotate_left
  · (intro w hSw; (try dsimp only at hSw); go_simp; try with_reducible rfl)
  try simp only [Act.put, List.setIfInBounds_toArray, List.set_cons_zero, List.set_cons_succ, List.getElem_toArray, List.getElem_cons_zero, List.getElem_cons_succ]
  refine wpAnyH_take (i := 17) (v := ?_) rfl (by kernel_rfl) (by kernel_rfl) (by kernel_rfl) (fun _ _ _ h => h) (Or.inl ⟨by rfl, ?_⟩) (by assumption) ?_
  rotate_left
  · (intro w hSw; (try dsimp only at hSw); go_simp; try with_reducible rfl)
  try simp only [Act.put, List.setIfInBounds_toArray, List.set_cons_zero, List.set_cons_succ, List.getElem_toArray, List.getElem_cons_zero, List.getElem_cons_succ]
  refine wpAnyH_take (i := 18) rfl (by kernel_rfl) (by kernel_rfl) (by kernel_rfl) (fun _ _ _ h => h) (Or.inr ⟨by rfl, rfl⟩) (by assumption) ?_
  try simp only [Act.put, List.setIfInBounds_toArray, List.set_cons_zero, List.set_cons_succ, List.getElem_toArray, List.getElem_cons_zero, List.getElem_cons_succ]
  refine wpAnyH_take (i := 19) (v := ?_) rfl (by kernel_rfl) (by kernel_rfl) (by kernel_rfl) (fun _ _ _ h => h) (Or.inl ⟨by rfl, ?_⟩) (by assumption) ?_
  rotate_left
  · (intro w hSw; (try dsimp only at hSw); go_simp; try with_reducible rfl)
  try simp only [Act.put, List.setIfInBounds_toArray, List.set_cons_zero, List.set_cons_succ, List.getElem_toArray, List.getElem_cons_zero, List.getElem_cons_succ]
  refine wpAnyH_take (i := 20) (v := ?_) rfl (by kernel_rfl) (by kernel_rfl) (by kernel_rfl) (fun _ _ _ h => h) (Or.inl ⟨by rfl, ?_⟩) (by assumption) ?_
  rotate_left
  · (intro w hSw; (try dsimp only at hSw); go_simp; try with_reducible rfl)
  try simp only [Act.put, List.setIfInBounds_toArray, List.set_cons_zero, List.set_cons_succ, List.getElem_toArray, List.getElem_cons_zero, List.getElem_cons_succ]
  refine wpAnyH_take (i := 21) (v := ?_) rfl (by kernel_rfl) (by kernel_rfl) (by kernel_rfl) (fun _ _ _ h => h) (Or.inl ⟨by rfl, ?_⟩) (by assumption) ?_
  rotate_left
  · (intro w hSw; (try dsimp only at hSw); go_simp; try with_reducible rfl)
  try simp only [Act.put, List.setIfInBounds_toArray, List.set_cons_zero, List.set_cons_succ, List.getElem_toArray, List.getElem_cons_zero, List.getElem_cons_succ]
  refine wpAnyH_take (i := 23) (v := ?_) rfl (by kernel_rfl) (by kernel_rfl) (by kernel_rfl) (fun _ _ _ h => h) (Or.inl ⟨by rfl, ?_⟩) (by assumption) ?_
  rotate_left
  · (intro w hSw; (try dsimp only at hSw); go_simp; try with_reducible rfl)
  try simp only [Act.put, List.setIfInBounds_toArray, List.set_cons_zero, List.set_cons_succ, List.getElem_toArray, List.getElem_cons_zero, List.getElem_cons_succ]
  refine wpAnyH_take (i := 24) (v := ?_) rfl (by kernel_rfl) (by kernel_rfl) (by kernel_rfl) (fun _ _ _ h => h) (Or.inl ⟨by rfl, ?_⟩) (by assumption) ?_
  rotate_left
  · (intro w hSw; (try dsimp only at hSw); go_simp; try with_reducible rfl)
  try simp only [Act.put, List.setIfInBounds_toArray, List.set_cons_zero, List.set_cons_succ, List.getElem_toArray, List.getElem_cons_zero, List.getElem_cons_succ]
  refine wpAnyH_ready (rs := [22]) (by kernel_rfl) (by simp) ?_
  refine AllReadyH.cons rfl (fun K hK => ?_) ?_
  rotate_left
  · exact AllReadyH.nil
  go_simp
  (go_at_call 28; ((with_reducible refine (look_value HLc.out).mono ?_); rintro e wo ⟨rfl, rfl⟩))
  go_wp2_with fail
  refine hK.out _ _ ?_ (fun hHeld => ?_)
  · (try dsimp only); first | (with_reducible assumption) | (with_reducible exact HPd.out.ks) | (with_reducible exact HPs.out.ks) | (with_reducible exact HPc2.out.ks) | (with_reducible exact HPz.out.ks) | (with_reducible exact HPa.out.ks)
  clear hK K
  try simp only [Act.put, List.setIfInBounds_toArray, List.set_cons_zero, List.set_cons_succ, List.getElem_toArray, List.getElem_cons_zero, List.getElem_cons_succ]
  refine wpAnyH_ready (rs := [25]) (by kernel_rfl) (by simp) ?_
  refine AllReadyH.cons rfl (fun K hK => ?_) ?_
  rotate_left
  · exact AllReadyH.nil
  go_simp
  (go_at_call 24; ((with_reducible refine (wantC_is HPc2.out.ks.k.tl.hd.cells1.1 HPc2.out.ks.k.tl.tl.hd.cells4.2.2.1 (box_cell (HW0.out ▸ HPc2.out.be)).1 hv0 hv1 hs0 hs1 HWS2.out).mono ?_); rintro e wz ⟨rfl, hb⟩; have HPz := Lib.hid (HPc2.out.below hb); clear hb))
  go_wp2_with fail
  refine hK.out _ _ ?_ (fun hHeld => ?_)
  · (try dsimp only); first | (with_reducible assumption) | (with_reducible exact HPd.out.ks) | (with_reducible exact HPs.out.ks) | (with_reducible exact HPc2.out.ks) | (with_reducible exact HPz.out.ks) | (with_reducible exact HPa.out.ks)
  clear hK K
  try simp only [Act.put, List.setIfInBounds_toArray, List.set_cons_zero, List.set_cons_succ, List.getElem_toArray, List.getElem_cons_zero, List.getElem_cons_succ]
  refine wpAnyH_take (i := 26) (v := ?_) rfl (by kernel_rfl) (by kernel_rfl) (by kernel_rfl) (fun _ _ _ h => h) (Or.inl ⟨by rfl, ?_⟩) (by assumption) ?_
  rotate_left
  · (intro w hSw; (try dsimp only at hSw); go_simp; try with_reducible rfl)
  try simp only [Act.put, List.setIfInBounds_toArray, List.set_cons_zero, List.set_cons_succ, List.getElem_toArray, List.getElem_cons_zero, List.getElem_cons_succ]
  refine wpAnyH_take (i := 27) (v := ?_) rfl (by kernel_rfl) (by kernel_rfl) (by kernel_rfl) (fun _ _ _ h => h) (Or.inl ⟨by rfl, ?_⟩) (by assumption) ?_
  rotate_left
  · (intro w hSw; (try dsimp only at hSw); go_simp; try with_reducible rfl)
  try simp only [Act.put, List.setIfInBounds_toArray, List.set_cons_zero, List.set_cons_succ, List.getElem_toArray, List.getElem_cons_zero, List.getElem_cons_succ]
  refine wpAnyH_take (i := 28) (v := ?_) rfl (by kernel_rfl) (by kernel_rfl) (by kernel_rfl) (fun _ _ _ h => h) (Or.inl ⟨by rfl, ?_⟩) (by assumption) ?_
  rotate_left
  · (intro w hSw; (try dsimp only at hSw); go_simp; try with_reducible rfl)
  try simp only [Act.put, List.setIfInBounds_toArray, List.set_cons_zero, List.set_cons_succ, List.getElem_toArray, List.getElem_cons_zero, List.getElem_cons_succ]
  refine wpAnyH_take (i := 29) (v := ?_) rfl (by kernel_rfl) (by kernel_rfl) (by kernel_rfl) (fun _ _ _ h => h) (Or.inl ⟨by rfl, ?_⟩) (by assumption) ?_
  rotate_left
  · (intro w hSw; (try dsimp only at hSw); go_simp; try with_reducible rfl)
  try simp only [Act.put, List.setIfInBounds_toArray, List.set_cons_zero, List.set_cons_succ, List.getElem_toArray, List.getElem_cons_zero, List.getElem_cons_succ]
  refine wpAnyH_ready (rs := [30]) (by kernel_rfl) (by simp) ?_
  refine AllReadyH.cons rfl (fun K hK => ?_) ?_
  rotate_left
  · exact AllReadyH.nil
  go_simp
  (go_at_call 7; ((with_reducible refine (awake_any _).mono ?_); rintro e wa ⟨rfl, hb⟩; have HPa := Lib.hid (HPz.out.below hb); clear hb))
  go_wp2_with fail
  refine hK.out _ _ ?_ (fun hHeld => ?_)
  · (try dsimp only); first | (with_reducible assumption) | (with_reducible exact HPd.out.ks) | (with_reducible exact HPs.out.ks) | (with_reducible exact HPc2.out.ks) | (with_reducible exact HPz.out.ks) | (with_reducible exact HPa.out.ks)
  clear hK K
  try simp only [Act.put, List.setIfInBounds_toArray, List.set_cons_zero, List.set_cons_succ, List.getElem_toArray, List.getElem_cons_zero, List.getElem_cons_succ]
  refine wpAnyH_take (i := 31) (v := ?_) rfl (by kernel_rfl) (by kernel_rfl) (by kernel_rfl) (fun _ _ _ h => h) (Or.inl ⟨by rfl, ?_⟩) (by assumption) ?_
  rotate_left
  · (intro w hSw; (try dsimp only at hSw); go_simp; try with_reducible rfl)
  try simp only [Act.put, List.setIfInBounds_toArray, List.set_cons_zero, List.set_cons_succ, List.getElem_toArray, List.getElem_cons_zero, List.getElem_cons_succ]
  refine wpAnyH_take (i := 32) (v := ?_) rfl (by kernel_rfl) (by kernel_rfl) (by kernel_rfl) (fun _ _ _ h => h) (Or.inl ⟨by rfl, ?_⟩) (by assumption) ?_
  rotate_left
  · (intro w hSw; (try dsimp only at hSw); go_simp; try with_reducible rfl)
  try simp only [Act.put, List.setIfInBounds_toArray, List.set_cons_zero, List.set_cons_succ, List.getElem_toArray, List.getElem_cons_zero, List.getElem_cons_succ]
  refine wpAnyH_done (by kernel_rfl) ?_ _
  clear hvs
  go_wp2_with fail
  go_ret
  exact ⟨rfl, HB0.out.trans (HPa.out.be.mono HB0.out.size)⟩

set_option maxHeartbeats 4000000 in
theorem looks_no1 (v st tn o y th t0 : Int) (w : World) (hv0 : 0 ≤ v) (hv1 : v ≤ 18446744073709551615) (hs0 : 0 ≤ st) (hs1 : st ≤ 18446744073709551615) (e1 : v / 65536 % 65536 = o) (e2 : v % 65536 = y) (e3 : v / 4294967296 % 256 = th) (e4 : v / 1099511627776 = t0) (hr : rightV v = false) (h0 : 0 < th) :
    Calls Try.prog 4 #[.int .u64 v, .int .u64 st, .int .u64 tn] w fun e w' => e = .returned (.bool true) ∧ Below w.heap.size w w' := by
  have HI := Lib.hid (isW_bad hr)
  have HMN : Hid (∀ f : Nat → Int, mnF f v = 0) := Lib.hid (fun f => by unfold mnF; rw [if_pos HI.out.th, HI.out.n])
  have HWS : Hid (wantF false th v st = 0) := Lib.hid (if_pos (.inl rfl))
  have HRW : Hid (rightW o y th t0 = false) := Lib.hid (by have := hr; unfold rightV at this; rw [e1, e2, e3, e4] at this; exact this)
  have HE := Lib.hid (And.intro e1 (And.intro e2 (And.intro e3 e4)))
  clear e1 e2 e3 e4 hr
  go_enter Try.func4, Try.ntmps4
  go_wp2_with fail
  have HB0 : Hid (Below w.heap.size w (w.alloc (.cells #[.int .u64 v] 37))) := Lib.hid ((Below.refl _ _).alloc (Nat.le_refl _) _)
  generalize hw0 : w.alloc (.cells #[.int .u64 v] 37) = w0 at HB0 ⊢
  have HW0 := Lib.hid hw0
  clear hw0
  refine begun_any.mono ?_; rintro e w1 ⟨p, g, rfl, np, ng, A1, hb⟩
  have HP0 := Lib.hid (PK.first A1 cb_zero hb np ng)
  clear A1 np ng hb
  go_wp2_with fail
  refine (pm_of p _).mono ?_; rintro e w1 ⟨rfl, hb⟩
  have HP1 := Lib.hid (HP0.out.below hb)
  clear hb
  go_wp2_with fail
  refine (small_any).mono ?_; rintro e w2 ⟨rfl, hb⟩
  have HP2 := Lib.hid (HP1.out.below hb)
  clear hb
  have HP3 := Lib.hid HP2.out.vars2
  have HQ0 := HP3.out.np
  go_wp2_with fail
  generalize (w2.alloc (.cells #[.pointer (some ⟨p, 0, none⟩)] 28)).alloc (.cells #[.int .i64 2, .int .i64 0, .int .i64 8] 31) = wv at HP3 ⊢
  generalize w2.heap.size = mb at HP3 ⊢
  clear HQ0
  go_wp2_with fail
  have HPd := Lib.hid HP3.out.drew
  have hvs : ∀ W, KS w0 [(mb + 1, 31, #[.int .i64 2, .int .i64 0, .int .i64 8]), (mb, 28, #[.pointer (some ⟨p, 0, none⟩)])] W → W.cell? ⟨mb + 1, 0, none⟩ = some (.int .i64 2) ∧ W.cell? ⟨mb + 1, 1, none⟩ = some (.int .i64 0) ∧ W.cell? ⟨mb + 1, 2, none⟩ = some (.int .i64 8) ∧ W.cell? ⟨mb, 0, none⟩ = some (.pointer (some ⟨p, 0, none⟩)) ∧ W.cell? ⟨w.heap.size, 0, none⟩ = some (.int .u64 v) := fun W h => ⟨h.k.1.b.cell 0, h.k.1.b.cell 1, h.k.1.b.cell 2, h.k.2.1.b.cell 0, (box_cell (HW0.out ▸ h.be)).1⟩
  go_region_held3 (KS w0 [(mb + 1, 31, #[.int .i64 2, .int .i64 0, .int .i64 8]), (mb, 28, #[.pointer (some ⟨p, 0, none⟩)])]) (first | (with_reducible assumption) | (with_reducible exact HPd.out.ks) | (with_reducible exact HPt.out.ks) | (with_reducible exact HP4.out.ks))
    (first
      | (go_at_call 12; ((with_reducible refine at_0.mono ?_); rintro e wt ⟨rfl, hb⟩; have HPt := Lib.hid (HPd.out.below hb); clear hb))
      | (go_at_call 11; ((with_reducible refine (store_yes HPt.out.ar (atK_lt (by omega)) hv0 hv1 HPt.out.cb (by omega)).mono ?_); rintro e w4 ⟨rfl, A5, O5⟩; have HP4 := Lib.hid (HPt.out.arena A5 (HPt.out.cb.upd 1) O5); clear A5 O5)))
  clear hvs
  clear HPd HPt
  obtain ⟨lb0, lb1, lb2, lbl⟩ := HP4.out.ks.k.1.cells3
  obtain ⟨mb0, mbl⟩ := HP4.out.ks.k.2.1.cells1
  obtain ⟨vb0, vbl⟩ := box_cell (HW0.out ▸ HP4.out.be)
  go_wp2_with fail
  refine (rparts_is hv0 hv1 HE.out.1 HE.out.2.1 HE.out.2.2.1 HE.out.2.2.2).mono ?_; rintro e w5 ⟨rfl, hb⟩
  have HP5 := Lib.hid (HP4.out.below hb)
  clear hb
  clear vb0 vbl lb0 lb1 lb2 lbl mb0 mbl
  go_wp2_with fail
  have HP6 := Lib.hid (HP5.out.var (ty := 56) (cs := #[.int .i64 o, .int .i64 y, .int .i64 th, .int .i64 t0]) (by decide) (by decide) (by decide))
  generalize w5.alloc (.cells #[.int .i64 o, .int .i64 y, .int .i64 th, .int .i64 t0] 56) = wx at HP6 ⊢
  generalize w5.heap.size = wb at HP6 ⊢
  refine (wrright_is HRW.out).mono ?_; rintro e w7 ⟨rfl, hb⟩
  have HP7 := Lib.hid (HP6.out.below hb)
  clear hb
  obtain ⟨wb0, wb1, wb2, wb3, wbl⟩ := HP7.out.ks.k.1.cells4
  obtain ⟨lb0, lb1, lb2, lbl⟩ := HP7.out.ks.k.2.1.cells3
  obtain ⟨mb0, mbl⟩ := HP7.out.ks.k.2.2.1.cells1
  obtain ⟨vb0, vbl⟩ := box_cell (HW0.out ▸ HP7.out.be)
  go_wp2_with fail
  clear vb0 vbl wb0 wb1 wb2 wb3 wbl lb0 lb1 lb2 lbl mb0 mbl
  have HP8 := Lib.hid (HP7.out.var (ty := 4) (cs := #[.bool false]) (by decide) (by decide) (by decide))
  generalize w7.alloc (.cells #[.bool false] 4) = wy at HP8 ⊢
  generalize w7.heap.size = rb at HP8 ⊢
  have HF : Hid ((upd zeroF (atK 0) v) (atK 0) = v) := Lib.hid (upd_same _ _ _)
  go_wp2_with fail
  have HPd := Lib.hid HP8.out.drew
  have hvs : ∀ W, KS w0 [(rb, 4, #[.bool false]), (wb, 56, #[.int .i64 o, .int .i64 y, .int .i64 th, .int .i64 t0]), (mb + 1, 31, #[.int .i64 2, .int .i64 0, .int .i64 8]), (mb, 28, #[.pointer (some ⟨p, 0, none⟩)])] W → W.cell? ⟨rb, 0, none⟩ = some (.bool false) ∧ W.cell? ⟨wb, 0, none⟩ = some (.int .i64 o) ∧ W.cell? ⟨wb, 1, none⟩ = some (.int .i64 y) ∧ W.cell? ⟨wb, 2, none⟩ = some (.int .i64 th) ∧ W.cell? ⟨wb, 3, none⟩ = some (.int .i64 t0) ∧ W.cell? ⟨mb + 1, 0, none⟩ = some (.int .i64 2) ∧ W.cell? ⟨mb + 1, 1, none⟩ = some (.int .i64 0) ∧ W.cell? ⟨mb + 1, 2, none⟩ = some (.int .i64 8) ∧ W.cell? ⟨mb, 0, none⟩ = some (.pointer (some ⟨p, 0, none⟩)) ∧ W.cell? ⟨w.heap.size, 0, none⟩ = some (.int .u64 v) := fun W h => ⟨h.k.1.b.cell 0, h.k.2.1.b.cell 0, h.k.2.1.b.cell 1, h.k.2.1.b.cell 2, h.k.2.1.b.cell 3, h.k.2.2.1.b.cell 0, h.k.2.2.1.b.cell 1, h.k.2.2.1.b.cell 2, h.k.2.2.2.1.b.cell 0, (box_cell (HW0.out ▸ h.be)).1⟩
  go_region_held3 (KS w0 [(rb, 4, #[.bool false]), (wb, 56, #[.int .i64 o, .int .i64 y, .int .i64 th, .int .i64 t0]), (mb + 1, 31, #[.int .i64 2, .int .i64 0, .int .i64 8]), (mb, 28, #[.pointer (some ⟨p, 0, none⟩)])]) (first | (with_reducible assumption) | (with_reducible exact HPd.out.ks) | (with_reducible exact HPt.out.ks) | (with_reducible exact HP9.out.ks))
    (first
      | (go_at_call 12; ((with_reducible refine at_0.mono ?_); rintro e wt ⟨rfl, hb⟩; have HPt := Lib.hid (HPd.out.below hb); clear hb))
      | (go_at_call 26; ((with_reducible refine look_8.mono ?_); rintro e w9 ⟨q, rfl, hq, L5, hb⟩; have HP9 := Lib.hid (HPt.out.below hb); have HL9 := Lib.hid L5; have HQ := Lib.hid (Nat.le_trans HPt.out.be.size hq); clear L5 hq hb)))
  clear hvs
  clear HPd HPt
  go_wp2_with fail
  have HPd := Lib.hid HP9.out.drew
  have HLd := Lib.hid HL9.out.drew
  have hvs : ∀ W, KS w0 [(rb, 4, #[.bool false]), (wb, 56, #[.int .i64 o, .int .i64 y, .int .i64 th, .int .i64 t0]), (mb + 1, 31, #[.int .i64 2, .int .i64 0, .int .i64 8]), (mb, 28, #[.pointer (some ⟨p, 0, none⟩)])] W → W.cell? ⟨rb, 0, none⟩ = some (.bool false) ∧ W.cell? ⟨wb, 0, none⟩ = some (.int .i64 o) ∧ W.cell? ⟨wb, 1, none⟩ = some (.int .i64 y) ∧ W.cell? ⟨wb, 2, none⟩ = some (.int .i64 th) ∧ W.cell? ⟨wb, 3, none⟩ = some (.int .i64 t0) ∧ W.cell? ⟨mb + 1, 0, none⟩ = some (.int .i64 2) ∧ W.cell? ⟨mb + 1, 1, none⟩ = some (.int .i64 0) ∧ W.cell? ⟨mb + 1, 2, none⟩ = some (.int .i64 8) ∧ W.cell? ⟨mb, 0, none⟩ = some (.pointer (some ⟨p, 0, none⟩)) ∧ W.cell? ⟨w.heap.size, 0, none⟩ = some (.int .u64 v) := fun W h => ⟨h.k.1.b.cell 0, h.k.2.1.b.cell 0, h.k.2.1.b.cell 1, h.k.2.1.b.cell 2, h.k.2.1.b.cell 3, h.k.2.2.1.b.cell 0, h.k.2.2.1.b.cell 1, h.k.2.2.1.b.cell 2, h.k.2.2.2.1.b.cell 0, (box_cell (HW0.out ▸ h.be)).1⟩
  go_region_held3 (KS w0 [(rb, 4, #[.bool false]), (wb, 56, #[.int .i64 o, .int .i64 y, .int .i64 th, .int .i64 t0]), (mb + 1, 31, #[.int .i64 2, .int .i64 0, .int .i64 8]), (mb, 28, #[.pointer (some ⟨p, 0, none⟩)])]) (first | (with_reducible assumption) | (with_reducible exact HPd.out.ks) | (with_reducible exact HPt.out.ks) | (with_reducible exact HPm.out.ks) | (with_reducible exact HP10.out.ks))
    (first
      | (go_at_call 27; ((with_reducible refine (look_done HLd.out).mono ?_); rintro e wo ⟨rfl, rfl⟩))
      | (go_at_call 28; ((with_reducible refine (look_value HLd.out).mono ?_); rintro e wo ⟨rfl, rfl⟩))
      | (go_at_call 12; ((with_reducible refine at_0.mono ?_); rintro e wt ⟨rfl, hb⟩; have HPt := Lib.hid (HPd.out.below hb); have HLt := Lib.hid (HLd.out.later hb); clear hb))
      | (go_at_call 19; ((with_reducible refine (Means_8 HPt.out.ar (atK_lt (by omega)) ((congrArg (mnF _) HF.out).trans (HMN.out _)) HPt.out.cb (by omega)).mono ?_); rintro e wm ⟨rfl, c5, A5, C5, _, O5⟩; have HPm := Lib.hid (HPt.out.arena A5 C5 O5); have HLm := Lib.hid (HLt.out.arena HPt.out.ar O5); clear A5 C5 O5))
      | (go_at_call 24; ((with_reducible refine (wantC_is HPm.out.ks.k.hd.cells1.1 HPm.out.ks.k.tl.hd.cells4.2.2.1 (box_cell (HW0.out ▸ HPm.out.be)).1 hv0 hv1 hs0 hs1 HWS.out).mono ?_); rintro e w10 ⟨rfl, hb⟩; have HP10 := Lib.hid (HPm.out.below hb); have HL10 := Lib.hid (HLm.out.later hb); clear hb)))
  clear hvs
  clear HPd HPt HPm HLd HLt HLm
  have HIF := Lib.hid (isW_is HF.out HI.out)
  have HWS2 := HWS
  go_wp2_with fail
  have HPd := Lib.hid HP10.out.drew
  have HLd := Lib.hid HL10.out.drew
  have hvs : ∀ W, KS w0 [(rb, 4, #[.bool false]), (wb, 56, #[.int .i64 o, .int .i64 y, .int .i64 th, .int .i64 t0]), (mb + 1, 31, #[.int .i64 2, .int .i64 0, .int .i64 8]), (mb, 28, #[.pointer (some ⟨p, 0, none⟩)])] W → W.cell? ⟨rb, 0, none⟩ = some (.bool false) ∧ W.cell? ⟨wb, 0, none⟩ = some (.int .i64 o) ∧ W.cell? ⟨wb, 1, none⟩ = some (.int .i64 y) ∧ W.cell? ⟨wb, 2, none⟩ = some (.int .i64 th) ∧ W.cell? ⟨wb, 3, none⟩ = some (.int .i64 t0) ∧ W.cell? ⟨mb + 1, 0, none⟩ = some (.int .i64 2) ∧ W.cell? ⟨mb + 1, 1, none⟩ = some (.int .i64 0) ∧ W.cell? ⟨mb + 1, 2, none⟩ = some (.int .i64 8) ∧ W.cell? ⟨mb, 0, none⟩ = some (.pointer (some ⟨p, 0, none⟩)) ∧ W.cell? ⟨w.heap.size, 0, none⟩ = some (.int .u64 v) := fun W h => ⟨h.k.1.b.cell 0, h.k.2.1.b.cell 0, h.k.2.1.b.cell 1, h.k.2.1.b.cell 2, h.k.2.1.b.cell 3, h.k.2.2.1.b.cell 0, h.k.2.2.1.b.cell 1, h.k.2.2.1.b.cell 2, h.k.2.2.2.1.b.cell 0, (box_cell (HW0.out ▸ h.be)).1⟩
  refine wp_region_held_drew (S := KS w0 [(rb, 4, #[.bool false]), (wb, 56, #[.int .i64 o, .int .i64 y, .int .i64 th, .int .i64 t0]), (mb + 1, 31, #[.int .i64 2, .int .i64 0, .int .i64 8]), (mb, 28, #[.pointer (some ⟨p, 0, none⟩)])]) (by kernel_rfl) ?_ (fun hHeld => ?_)
  · exact HPd.out.ks
  refine wpAnyH_take (i := 0) (v := ?_) rfl (by kernel_rfl) (by kernel_rfl) (by kernel_rfl) (fun _ _ _ h => h) (Or.inl ⟨by rfl, ?_⟩) (by assumption) ?_
  rotate_left
  · (intro w hSw; (try dsimp only at hSw); go_simp; try with_reducible rfl)
  try simp only [Act.put, List.setIfInBounds_toArray, List.set_cons_zero, List.set_cons_succ, List.getElem_toArray, List.getElem_cons_zero]
  refine wpAnyH_take (i := 1) (v := ?_) rfl (by kernel_rfl) (by kernel_rfl) (by kernel_rfl) (fun _ _ _ h => h) (Or.inl ⟨by rfl, ?_⟩) (by assumption) ?_
  rotate_left
  · (intro w hSw; (try dsimp only at hSw); go_simp; try with_reducible rfl)
  try simp only [Act.put, List.setIfInBounds_toArray, List.set_cons_zero, List.set_cons_succ, List.getElem_toArray, List.getElem_cons_zero, List.getElem_cons_succ]
  refine wpAnyH_take (i := 3) (v := ?_) rfl (by kernel_rfl) (by kernel_rfl) (by kernel_rfl) (fun _ _ _ h => h) (Or.inl ⟨by rfl, ?_⟩) (by assumption) ?_
  rotate_left
  · (intro w hSw; (try dsimp only at hSw); go_simp; try with_reducible rfl)
  try simp only [Act.put, List.setIfInBounds_toArray, List.set_cons_zero, List.set_cons_succ, List.getElem_toArray, List.getElem_cons_zero, List.getElem_cons_succ]
  refine wpAnyH_take (i := 4) (v := ?_) rfl (by kernel_rfl) (by kernel_rfl) (by kernel_rfl) (fun _ _ _ h => h) (Or.inl ⟨by rfl, ?_⟩) (by assumption) ?_
  rotate_left
  · (intro w hSw; (try dsimp only at hSw); go_simp; try with_reducible rfl)
  try simp only [Act.put, List.setIfInBounds_toArray, List.set_cons_zero, List.set_cons_succ, List.getElem_toArray, List.getElem_cons_zero, List.getElem_cons_succ]
  refine wpAnyH_ready (rs := [2]) (by kernel_rfl) (by simp) ?_
  refine AllReadyH.cons rfl (fun K hK => ?_) ?_
  rotate_left
  · exact AllReadyH.nil
  go_simp
  (go_at_call 29; ((with_reducible refine (look_0plain HPd.out.ar HLd.out (atK_lt (by omega)) HIF.out HPd.out.cb (by omega)).mono ?_); rintro e w11 ⟨rfl, A5, L5, O5⟩; have HP11 := Lib.hid (HPd.out.look HLd.out HQ.out A5 (HPd.out.cb.upd 0) O5); have HL11 := Lib.hid L5; clear A5 L5 O5))
  go_wp2_with fail
  refine hK.out _ _ ?_ (fun hHeld => ?_)
  · (try dsimp only); first | (with_reducible assumption) | (with_reducible exact HPd.out.ks) | (with_reducible exact HP11.out.ks)
  clear hK K
  try simp only [Act.put, List.setIfInBounds_toArray, List.set_cons_zero, List.set_cons_succ, List.getElem_toArray, List.getElem_cons_zero, List.getElem_cons_succ]
  refine wpAnyH_take (i := 5) (v := ?_) rfl (by kernel_rfl) (by kernel_rfl) (by kernel_rfl) (fun _ _ _ h => h) (Or.inl ⟨by rfl, ?_⟩) (by assumption) ?_
  rotate_left
  · (intro w hSw; (try dsimp only at hSw); go_simp; try with_reducible rfl)
  try simp only [Act.put, List.setIfInBounds_toArray, List.set_cons_zero, List.set_cons_succ, List.getElem_toArray, List.getElem_cons_zero, List.getElem_cons_succ]
  refine wpAnyH_take (i := 6) rfl (by kernel_rfl) (by kernel_rfl) (by kernel_rfl) (fun _ _ _ h => h) (Or.inr ⟨by rfl, rfl⟩) (by assumption) ?_
  try simp only [Act.put, List.setIfInBounds_toArray, List.set_cons_zero, List.set_cons_succ, List.getElem_toArray, List.getElem_cons_zero, List.getElem_cons_succ]
  refine wpAnyH_take (i := 7) rfl (by kernel_rfl) (by kernel_rfl) (by kernel_rfl) (fun _ _ _ h => h) (Or.inr ⟨by rfl, rfl⟩) (by assumption) ?_
  try simp only [Act.put, List.setIfInBounds_toArray, List.set_cons_zero, List.set_cons_succ, List.getElem_toArray, List.getElem_cons_zero, List.getElem_cons_succ]
  refine wpAnyH_take (i := 8) rfl (by kernel_rfl) (by kernel_rfl) (by kernel_rfl) (fun _ _ _ h => h) (Or.inr ⟨by rfl, rfl⟩) (by assumption) ?_
  try simp only [Act.put, List.setIfInBounds_toArray, List.set_cons_zero, List.set_cons_succ, List.getElem_toArray, List.getElem_cons_zero, List.getElem_cons_succ]
  refine wpAnyH_take (i := 9) (v := ?_) rfl (by kernel_rfl) (by kernel_rfl) (by kernel_rfl) (fun _ _ _ h => h) (Or.inl ⟨by rfl, ?_⟩) (by assumption) ?_
  rotate_left
  · (intro w hSw; (try dsimp only at hSw); go_simp; try with_reducible rfl)
  try simp only [Act.put, List.setIfInBounds_toArray, List.set_cons_zero, List.set_cons_succ, List.getElem_toArray, List.getElem_cons_zero, List.getElem_cons_succ]
  refine wpAnyH_take (i := 10) (v := ?_) rfl (by kernel_rfl) (by kernel_rfl) (by kernel_rfl) (fun _ _ _ h => h) (Or.inl ⟨by rfl, ?_⟩) (by assumption) ?_
  rotate_left
  · (intro w hSw; (try dsimp only at hSw); go_simp; try with_reducible rfl)
  try simp only [Act.put, List.setIfInBounds_toArray, List.set_cons_zero, List.set_cons_succ, List.getElem_toArray, List.getElem_cons_zero, List.getElem_cons_succ]
  refine wpAnyH_done (by kernel_rfl) ?_ _
  clear hvs
  clear HPd HLd
  obtain ⟨rb0, rbl⟩ := HP11.out.ks.k.1.cells1
  obtain ⟨wb0, wb1, wb2, wb3, wbl⟩ := HP11.out.ks.k.2.1.cells4
  obtain ⟨lb0, lb1, lb2, lbl⟩ := HP11.out.ks.k.2.2.1.cells3
  obtain ⟨mb0, mbl⟩ := HP11.out.ks.k.2.2.2.1.cells1
  obtain ⟨vb0, vbl⟩ := box_cell (HW0.out ▸ HP11.out.be)
  obtain ⟨cc, ff, HPc⟩ : ∃ cc ff, Hid (PK w0 p g _ [(rb, 4, #[.bool false]), (wb, 56, #[.int .i64 o, .int .i64 y, .int .i64 th, .int .i64 t0]), (mb + 1, 31, #[.int .i64 2, .int .i64 0, .int .i64 8]), (mb, 28, #[.pointer (some ⟨p, 0, none⟩)])] cc ff _) := ⟨_, _, HP11⟩
  obtain ⟨z0, hz0⟩ : ∃ z, cc 0 = z := ⟨_, rfl⟩
  obtain ⟨z1, hz1⟩ : ∃ z, cc 1 = z := ⟨_, rfl⟩
  obtain ⟨z2, hz2⟩ : ∃ z, cc 2 = z := ⟨_, rfl⟩
  obtain ⟨z3, hz3⟩ : ∃ z, cc 3 = z := ⟨_, rfl⟩
  obtain ⟨z4, hz4⟩ : ∃ z, cc 4 = z := ⟨_, rfl⟩
  have HZ := Lib.hid (And.intro hz0 (And.intro hz1 (And.intro hz2 (And.intro hz3 hz4))))
  clear hz0 hz1 hz2 hz3 hz4
  go_wp2_with fail
  refine (counts_is HPc.out.ar HZ.out.1 HZ.out.2.1 HZ.out.2.2.1 HZ.out.2.2.2.1 HZ.out.2.2.2.2).mono ?_; rintro e w12 ⟨rfl, hb⟩
  have HP12 := Lib.hid (HPc.out.below hb)
  have HL12 := Lib.hid (HL11.out.later hb)
  clear hb
  clear vb0 vbl rb0 rbl wb0 wb1 wb2 wb3 wbl lb0 lb1 lb2 lbl mb0 mbl
  go_wp2_with fail
  have HP13 := Lib.hid (HP12.out.var (ty := 66) (cs := #[.int .i64 z0, .int .i64 z1, .int .i64 z2, .int .i64 z3, .int .i64 z4]) (by decide) (by decide) (by decide))
  have HL13 := Lib.hid (HL12.out.alloc (.cells #[.int .i64 z0, .int .i64 z1, .int .i64 z2, .int .i64 z3, .int .i64 z4] 66))
  generalize w12.alloc (.cells #[.int .i64 z0, .int .i64 z1, .int .i64 z2, .int .i64 z3, .int .i64 z4] 66) = wn at HP13 HL13 ⊢
  generalize w12.heap.size = nb at HP13 ⊢
  go_wp2_with fail
  have HPd := Lib.hid HP13.out.drew
  have HLd := Lib.hid HL13.out.drew
  have hvs : ∀ W, KS w0 [(nb, 66, #[.int .i64 z0, .int .i64 z1, .int .i64 z2, .int .i64 z3, .int .i64 z4]), (rb, 4, #[.bool false]), (wb, 56, #[.int .i64 o, .int .i64 y, .int .i64 th, .int .i64 t0]), (mb + 1, 31, #[.int .i64 2, .int .i64 0, .int .i64 8]), (mb, 28, #[.pointer (some ⟨p, 0, none⟩)])] W → W.cell? ⟨nb, 0, none⟩ = some (.int .i64 z0) ∧ W.cell? ⟨nb, 1, none⟩ = some (.int .i64 z1) ∧ W.cell? ⟨nb, 2, none⟩ = some (.int .i64 z2) ∧ W.cell? ⟨nb, 3, none⟩ = some (.int .i64 z3) ∧ W.cell? ⟨nb, 4, none⟩ = some (.int .i64 z4) ∧ W.cell? ⟨rb, 0, none⟩ = some (.bool false) ∧ W.cell? ⟨wb, 0, none⟩ = some (.int .i64 o) ∧ W.cell? ⟨wb, 1, none⟩ = some (.int .i64 y) ∧ W.cell? ⟨wb, 2, none⟩ = some (.int .i64 th) ∧ W.cell? ⟨wb, 3, none⟩ = some (.int .i64 t0) ∧ W.cell? ⟨mb + 1, 0, none⟩ = some (.int .i64 2) ∧ W.cell? ⟨mb + 1, 1, none⟩ = some (.int .i64 0) ∧ W.cell? ⟨mb + 1, 2, none⟩ = some (.int .i64 8) ∧ W.cell? ⟨mb, 0, none⟩ = some (.pointer (some ⟨p, 0, none⟩)) ∧ W.cell? ⟨w.heap.size, 0, none⟩ = some (.int .u64 v) := fun W h => ⟨h.k.1.b.cell 0, h.k.1.b.cell 1, h.k.1.b.cell 2, h.k.1.b.cell 3, h.k.1.b.cell 4, h.k.2.1.b.cell 0, h.k.2.2.1.b.cell 0, h.k.2.2.1.b.cell 1, h.k.2.2.1.b.cell 2, h.k.2.2.1.b.cell 3, h.k.2.2.2.1.b.cell 0, h.k.2.2.2.1.b.cell 1, h.k.2.2.2.1.b.cell 2, h.k.2.2.2.2.1.b.cell 0, (box_cell (HW0.out ▸ h.be)).1⟩
  go_region_held3 (KS w0 [(nb, 66, #[.int .i64 z0, .int .i64 z1, .int .i64 z2, .int .i64 z3, .int .i64 z4]), (rb, 4, #[.bool false]), (wb, 56, #[.int .i64 o, .int .i64 y, .int .i64 th, .int .i64 t0]), (mb + 1, 31, #[.int .i64 2, .int .i64 0, .int .i64 8]), (mb, 28, #[.pointer (some ⟨p, 0, none⟩)])]) (first | (with_reducible assumption) | (with_reducible exact HPd.out.ks) | (with_reducible exact HPs.out.ks) | (with_reducible exact HPc2.out.ks) | (with_reducible exact HPz.out.ks) | (with_reducible exact HPa.out.ks))
    (first
      | (go_at_call 27; ((with_reducible refine (look_done HLd.out).mono ?_); rintro e wo ⟨rfl, rfl⟩))
      | (go_at_call 29; ((with_reducible refine (look_2 HLd.out).mono ?_); rintro e ws ⟨rfl, hb⟩; have HPs := Lib.hid (HPd.out.below hb); have HLs := Lib.hid (HLd.out.later hb); clear hb))
      | (go_at_call 30; ((with_reducible refine (counts_is HPs.out.ar HZ.out.1 HZ.out.2.1 HZ.out.2.2.1 HZ.out.2.2.2.1 HZ.out.2.2.2.2).mono ?_); rintro e wc ⟨rfl, hb⟩; have HPc2 := Lib.hid (HPs.out.below hb); have HLc := Lib.hid (HLs.out.later hb); clear hb))
      | (go_at_call 28; ((with_reducible refine (look_value HLc.out).mono ?_); rintro e wo ⟨rfl, rfl⟩))
      | (go_at_call 24; ((with_reducible refine (wantC_is HPc2.out.ks.k.tl.hd.cells1.1 HPc2.out.ks.k.tl.tl.hd.cells4.2.2.1 (box_cell (HW0.out ▸ HPc2.out.be)).1 hv0 hv1 hs0 hs1 HWS2.out).mono ?_); rintro e wz ⟨rfl, hb⟩; have HPz := Lib.hid (HPc2.out.below hb); clear hb))
      | (go_at_call 7; ((with_reducible refine (awake_any _).mono ?_); rintro e wa ⟨rfl, hb⟩; have HPa := Lib.hid (HPz.out.below hb); clear hb)))
  clear hvs
  go_wp2_with fail
  go_ret
  exact ⟨rfl, HB0.out.trans (HPa.out.be.mono HB0.out.size)⟩

set_option maxHeartbeats 4000000 in
theorem looks_pl (v st tn o y t0 : Int) (w : World) (hv0 : 0 ≤ v) (hv1 : v ≤ 18446744073709551615) (hs0 : 0 ≤ st) (hs1 : st ≤ 18446744073709551615) (e1 : v / 65536 % 65536 = o) (e2 : v % 65536 = y) (e3 : v / 4294967296 % 256 = 0) (e4 : v / 1099511627776 = t0) (hr : rightV v = true) :
    Calls Try.prog 4 #[.int .u64 v, .int .u64 st, .int .u64 tn] w fun e w' => e = .returned (.bool true) ∧ Below w.heap.size w w' := by
  have HI := Lib.hid (isW_parts e1 e2 e3 e4 hr)
  have HWS : Hid (wantF true 0 v st = y) := Lib.hid (plain_want e2 e3)
  have HRW : Hid (rightW o y 0 t0 = true) := Lib.hid (by have := hr; unfold rightV at this; rw [e1, e2, e3, e4] at this; exact this)
  have HE := Lib.hid (And.intro e1 (And.intro e2 (And.intro e3 e4)))
  clear e1 e2 e3 e4 hr
  go_enter Try.func4, Try.ntmps4
  go_wp2_with fail
  have HB0 : Hid (Below w.heap.size w (w.alloc (.cells #[.int .u64 v] 37))) := Lib.hid ((Below.refl _ _).alloc (Nat.le_refl _) _)
  generalize hw0 : w.alloc (.cells #[.int .u64 v] 37) = w0 at HB0 ⊢
  have HW0 := Lib.hid hw0
  clear hw0
  refine begun_any.mono ?_; rintro e w1 ⟨p, g, rfl, np, ng, A1, hb⟩
  have HP0 := Lib.hid (PK.first A1 cb_zero hb np ng)
  clear A1 np ng hb
  go_wp2_with fail
  refine (pm_of p _).mono ?_; rintro e w1 ⟨rfl, hb⟩
  have HP1 := Lib.hid (HP0.out.below hb)
  clear hb
  go_wp2_with fail
  refine (small_any).mono ?_; rintro e w2 ⟨rfl, hb⟩
  have HP2 := Lib.hid (HP1.out.below hb)
  clear hb
  have HP3 := Lib.hid HP2.out.vars2
  have HQ0 := HP3.out.np
  go_wp2_with fail
  generalize (w2.alloc (.cells #[.pointer (some ⟨p, 0, none⟩)] 28)).alloc (.cells #[.int .i64 2, .int .i64 0, .int .i64 8] 31) = wv at HP3 ⊢
  generalize w2.heap.size = mb at HP3 ⊢
  clear HQ0
  go_wp2_with fail
  have HPd := Lib.hid HP3.out.drew
  have hvs : ∀ W, KS w0 [(mb + 1, 31, #[.int .i64 2, .int .i64 0, .int .i64 8]), (mb, 28, #[.pointer (some ⟨p, 0, none⟩)])] W → W.cell? ⟨mb + 1, 0, none⟩ = some (.int .i64 2) ∧ W.cell? ⟨mb + 1, 1, none⟩ = some (.int .i64 0) ∧ W.cell? ⟨mb + 1, 2, none⟩ = some (.int .i64 8) ∧ W.cell? ⟨mb, 0, none⟩ = some (.pointer (some ⟨p, 0, none⟩)) ∧ W.cell? ⟨w.heap.size, 0, none⟩ = some (.int .u64 v) := fun W h => ⟨h.k.1.b.cell 0, h.k.1.b.cell 1, h.k.1.b.cell 2, h.k.2.1.b.cell 0, (box_cell (HW0.out ▸ h.be)).1⟩
  go_region_held3 (KS w0 [(mb + 1, 31, #[.int .i64 2, .int .i64 0, .int .i64 8]), (mb, 28, #[.pointer (some ⟨p, 0, none⟩)])]) (first | (with_reducible assumption) | (with_reducible exact HPd.out.ks) | (with_reducible exact HPt.out.ks) | (with_reducible exact HP4.out.ks))
    (first
      | (go_at_call 12; ((with_reducible refine at_0.mono ?_); rintro e wt ⟨rfl, hb⟩; have HPt := Lib.hid (HPd.out.below hb); clear hb))
      | (go_at_call 11; ((with_reducible refine (store_yes HPt.out.ar (atK_lt (by omega)) hv0 hv1 HPt.out.cb (by omega)).mono ?_); rintro e w4 ⟨rfl, A5, O5⟩; have HP4 := Lib.hid (HPt.out.arena A5 (HPt.out.cb.upd 1) O5); clear A5 O5)))
  clear hvs
  clear HPd HPt
  obtain ⟨lb0, lb1, lb2, lbl⟩ := HP4.out.ks.k.1.cells3
  obtain ⟨mb0, mbl⟩ := HP4.out.ks.k.2.1.cells1
  obtain ⟨vb0, vbl⟩ := box_cell (HW0.out ▸ HP4.out.be)
  go_wp2_with fail
  refine (rparts_is hv0 hv1 HE.out.1 HE.out.2.1 HE.out.2.2.1 HE.out.2.2.2).mono ?_; rintro e w5 ⟨rfl, hb⟩
  have HP5 := Lib.hid (HP4.out.below hb)
  clear hb
  clear vb0 vbl lb0 lb1 lb2 lbl mb0 mbl
  go_wp2_with fail
  have HP6 := Lib.hid (HP5.out.var (ty := 56) (cs := #[.int .i64 o, .int .i64 y, .int .i64 0, .int .i64 t0]) (by decide) (by decide) (by decide))
  generalize w5.alloc (.cells #[.int .i64 o, .int .i64 y, .int .i64 0, .int .i64 t0] 56) = wx at HP6 ⊢
  generalize w5.heap.size = wb at HP6 ⊢
  refine (wrright_is HRW.out).mono ?_; rintro e w7 ⟨rfl, hb⟩
  have HP7 := Lib.hid (HP6.out.below hb)
  clear hb
  obtain ⟨wb0, wb1, wb2, wb3, wbl⟩ := HP7.out.ks.k.1.cells4
  obtain ⟨lb0, lb1, lb2, lbl⟩ := HP7.out.ks.k.2.1.cells3
  obtain ⟨mb0, mbl⟩ := HP7.out.ks.k.2.2.1.cells1
  obtain ⟨vb0, vbl⟩ := box_cell (HW0.out ▸ HP7.out.be)
  go_wp2_with fail
  clear vb0 vbl wb0 wb1 wb2 wb3 wbl lb0 lb1 lb2 lbl mb0 mbl
  have HP8 := Lib.hid (HP7.out.var (ty := 4) (cs := #[.bool true]) (by decide) (by decide) (by decide))
  generalize w7.alloc (.cells #[.bool true] 4) = wy at HP8 ⊢
  generalize w7.heap.size = rb at HP8 ⊢
  have HF : Hid ((upd zeroF (atK 0) v) (atK 0) = v) := Lib.hid (upd_same _ _ _)
  go_wp2_with fail
  have HPd := Lib.hid HP8.out.drew
  have hvs : ∀ W, KS w0 [(rb, 4, #[.bool true]), (wb, 56, #[.int .i64 o, .int .i64 y, .int .i64 0, .int .i64 t0]), (mb + 1, 31, #[.int .i64 2, .int .i64 0, .int .i64 8]), (mb, 28, #[.pointer (some ⟨p, 0, none⟩)])] W → W.cell? ⟨rb, 0, none⟩ = some (.bool true) ∧ W.cell? ⟨wb, 0, none⟩ = some (.int .i64 o) ∧ W.cell? ⟨wb, 1, none⟩ = some (.int .i64 y) ∧ W.cell? ⟨wb, 2, none⟩ = some (.int .i64 0) ∧ W.cell? ⟨wb, 3, none⟩ = some (.int .i64 t0) ∧ W.cell? ⟨mb + 1, 0, none⟩ = some (.int .i64 2) ∧ W.cell? ⟨mb + 1, 1, none⟩ = some (.int .i64 0) ∧ W.cell? ⟨mb + 1, 2, none⟩ = some (.int .i64 8) ∧ W.cell? ⟨mb, 0, none⟩ = some (.pointer (some ⟨p, 0, none⟩)) ∧ W.cell? ⟨w.heap.size, 0, none⟩ = some (.int .u64 v) := fun W h => ⟨h.k.1.b.cell 0, h.k.2.1.b.cell 0, h.k.2.1.b.cell 1, h.k.2.1.b.cell 2, h.k.2.1.b.cell 3, h.k.2.2.1.b.cell 0, h.k.2.2.1.b.cell 1, h.k.2.2.1.b.cell 2, h.k.2.2.2.1.b.cell 0, (box_cell (HW0.out ▸ h.be)).1⟩
  go_region_held3 (KS w0 [(rb, 4, #[.bool true]), (wb, 56, #[.int .i64 o, .int .i64 y, .int .i64 0, .int .i64 t0]), (mb + 1, 31, #[.int .i64 2, .int .i64 0, .int .i64 8]), (mb, 28, #[.pointer (some ⟨p, 0, none⟩)])]) (first | (with_reducible assumption) | (with_reducible exact HPd.out.ks) | (with_reducible exact HPt.out.ks) | (with_reducible exact HP9.out.ks))
    (first
      | (go_at_call 12; ((with_reducible refine at_0.mono ?_); rintro e wt ⟨rfl, hb⟩; have HPt := Lib.hid (HPd.out.below hb); clear hb))
      | (go_at_call 26; ((with_reducible refine look_8.mono ?_); rintro e w9 ⟨q, rfl, hq, L5, hb⟩; have HP9 := Lib.hid (HPt.out.below hb); have HL9 := Lib.hid L5; have HQ := Lib.hid (Nat.le_trans HPt.out.be.size hq); clear L5 hq hb)))
  clear hvs
  clear HPd HPt
  go_wp2_with fail
  have HPd := Lib.hid HP9.out.drew
  have HLd := Lib.hid HL9.out.drew
  have hvs : ∀ W, KS w0 [(rb, 4, #[.bool true]), (wb, 56, #[.int .i64 o, .int .i64 y, .int .i64 0, .int .i64 t0]), (mb + 1, 31, #[.int .i64 2, .int .i64 0, .int .i64 8]), (mb, 28, #[.pointer (some ⟨p, 0, none⟩)])] W → W.cell? ⟨rb, 0, none⟩ = some (.bool true) ∧ W.cell? ⟨wb, 0, none⟩ = some (.int .i64 o) ∧ W.cell? ⟨wb, 1, none⟩ = some (.int .i64 y) ∧ W.cell? ⟨wb, 2, none⟩ = some (.int .i64 0) ∧ W.cell? ⟨wb, 3, none⟩ = some (.int .i64 t0) ∧ W.cell? ⟨mb + 1, 0, none⟩ = some (.int .i64 2) ∧ W.cell? ⟨mb + 1, 1, none⟩ = some (.int .i64 0) ∧ W.cell? ⟨mb + 1, 2, none⟩ = some (.int .i64 8) ∧ W.cell? ⟨mb, 0, none⟩ = some (.pointer (some ⟨p, 0, none⟩)) ∧ W.cell? ⟨w.heap.size, 0, none⟩ = some (.int .u64 v) := fun W h => ⟨h.k.1.b.cell 0, h.k.2.1.b.cell 0, h.k.2.1.b.cell 1, h.k.2.1.b.cell 2, h.k.2.1.b.cell 3, h.k.2.2.1.b.cell 0, h.k.2.2.1.b.cell 1, h.k.2.2.1.b.cell 2, h.k.2.2.2.1.b.cell 0, (box_cell (HW0.out ▸ h.be)).1⟩
  go_region_held3 (KS w0 [(rb, 4, #[.bool true]), (wb, 56, #[.int .i64 o, .int .i64 y, .int .i64 0, .int .i64 t0]), (mb + 1, 31, #[.int .i64 2, .int .i64 0, .int .i64 8]), (mb, 28, #[.pointer (some ⟨p, 0, none⟩)])]) (first | (with_reducible assumption) | (with_reducible exact HPd.out.ks) | (with_reducible exact HPt.out.ks) | (with_reducible exact HPm.out.ks) | (with_reducible exact HP10.out.ks))
    (first
      | (go_at_call 27; ((with_reducible refine (look_done HLd.out).mono ?_); rintro e wo ⟨rfl, rfl⟩))
      | (go_at_call 28; ((with_reducible refine (look_value HLd.out).mono ?_); rintro e wo ⟨rfl, rfl⟩))
      | (go_at_call 12; ((with_reducible refine at_0.mono ?_); rintro e wt ⟨rfl, hb⟩; have HPt := Lib.hid (HPd.out.below hb); have HLt := Lib.hid (HLd.out.later hb); clear hb))
      | (go_at_call 19; ((with_reducible refine (Means_8 HPt.out.ar (atK_lt (by omega)) (mn_plain HI.out HF.out) HPt.out.cb (by omega)).mono ?_); rintro e wm ⟨rfl, c5, A5, C5, _, O5⟩; have HPm := Lib.hid (HPt.out.arena A5 C5 O5); have HLm := Lib.hid (HLt.out.arena HPt.out.ar O5); clear A5 C5 O5))
      | (go_at_call 24; ((with_reducible refine (wantC_is HPm.out.ks.k.hd.cells1.1 HPm.out.ks.k.tl.hd.cells4.2.2.1 (box_cell (HW0.out ▸ HPm.out.be)).1 hv0 hv1 hs0 hs1 HWS.out).mono ?_); rintro e w10 ⟨rfl, hb⟩; have HP10 := Lib.hid (HPm.out.below hb); have HL10 := Lib.hid (HLm.out.later hb); clear hb)))
  clear hvs
  clear HPd HPt HPm HLd HLt HLm
  have HIF := Lib.hid (isW_is HF.out HI.out)
  have HWS2 := HWS
  go_wp2_with fail
  have HPd := Lib.hid HP10.out.drew
  have HLd := Lib.hid HL10.out.drew
  have hvs : ∀ W, KS w0 [(rb, 4, #[.bool true]), (wb, 56, #[.int .i64 o, .int .i64 y, .int .i64 0, .int .i64 t0]), (mb + 1, 31, #[.int .i64 2, .int .i64 0, .int .i64 8]), (mb, 28, #[.pointer (some ⟨p, 0, none⟩)])] W → W.cell? ⟨rb, 0, none⟩ = some (.bool true) ∧ W.cell? ⟨wb, 0, none⟩ = some (.int .i64 o) ∧ W.cell? ⟨wb, 1, none⟩ = some (.int .i64 y) ∧ W.cell? ⟨wb, 2, none⟩ = some (.int .i64 0) ∧ W.cell? ⟨wb, 3, none⟩ = some (.int .i64 t0) ∧ W.cell? ⟨mb + 1, 0, none⟩ = some (.int .i64 2) ∧ W.cell? ⟨mb + 1, 1, none⟩ = some (.int .i64 0) ∧ W.cell? ⟨mb + 1, 2, none⟩ = some (.int .i64 8) ∧ W.cell? ⟨mb, 0, none⟩ = some (.pointer (some ⟨p, 0, none⟩)) ∧ W.cell? ⟨w.heap.size, 0, none⟩ = some (.int .u64 v) := fun W h => ⟨h.k.1.b.cell 0, h.k.2.1.b.cell 0, h.k.2.1.b.cell 1, h.k.2.1.b.cell 2, h.k.2.1.b.cell 3, h.k.2.2.1.b.cell 0, h.k.2.2.1.b.cell 1, h.k.2.2.1.b.cell 2, h.k.2.2.2.1.b.cell 0, (box_cell (HW0.out ▸ h.be)).1⟩
  go_region_held3 (KS w0 [(rb, 4, #[.bool true]), (wb, 56, #[.int .i64 o, .int .i64 y, .int .i64 0, .int .i64 t0]), (mb + 1, 31, #[.int .i64 2, .int .i64 0, .int .i64 8]), (mb, 28, #[.pointer (some ⟨p, 0, none⟩)])]) (first | (with_reducible assumption) | (with_reducible exact HPd.out.ks) | (with_reducible exact HP11.out.ks))
    (first
      | (go_at_call 29; ((with_reducible refine (look_0plain HPd.out.ar HLd.out (atK_lt (by omega)) HIF.out HPd.out.cb (by omega)).mono ?_); rintro e w11 ⟨rfl, A5, L5, O5⟩; have HP11 := Lib.hid (HPd.out.look HLd.out HQ.out A5 (HPd.out.cb.upd 0) O5); have HL11 := Lib.hid L5; clear A5 L5 O5)))
  clear hvs
  clear HPd HLd
  obtain ⟨rb0, rbl⟩ := HP11.out.ks.k.1.cells1
  obtain ⟨wb0, wb1, wb2, wb3, wbl⟩ := HP11.out.ks.k.2.1.cells4
  obtain ⟨lb0, lb1, lb2, lbl⟩ := HP11.out.ks.k.2.2.1.cells3
  obtain ⟨mb0, mbl⟩ := HP11.out.ks.k.2.2.2.1.cells1
  obtain ⟨vb0, vbl⟩ := box_cell (HW0.out ▸ HP11.out.be)
  obtain ⟨cc, ff, HPc⟩ : ∃ cc ff, Hid (PK w0 p g _ [(rb, 4, #[.bool true]), (wb, 56, #[.int .i64 o, .int .i64 y, .int .i64 0, .int .i64 t0]), (mb + 1, 31, #[.int .i64 2, .int .i64 0, .int .i64 8]), (mb, 28, #[.pointer (some ⟨p, 0, none⟩)])] cc ff _) := ⟨_, _, HP11⟩
  obtain ⟨z0, hz0⟩ : ∃ z, cc 0 = z := ⟨_, rfl⟩
  obtain ⟨z1, hz1⟩ : ∃ z, cc 1 = z := ⟨_, rfl⟩
  obtain ⟨z2, hz2⟩ : ∃ z, cc 2 = z := ⟨_, rfl⟩
  obtain ⟨z3, hz3⟩ : ∃ z, cc 3 = z := ⟨_, rfl⟩
  obtain ⟨z4, hz4⟩ : ∃ z, cc 4 = z := ⟨_, rfl⟩
  have HZ := Lib.hid (And.intro hz0 (And.intro hz1 (And.intro hz2 (And.intro hz3 hz4))))
  clear hz0 hz1 hz2 hz3 hz4
  go_wp2_with fail
  refine (counts_is HPc.out.ar HZ.out.1 HZ.out.2.1 HZ.out.2.2.1 HZ.out.2.2.2.1 HZ.out.2.2.2.2).mono ?_; rintro e w12 ⟨rfl, hb⟩
  have HP12 := Lib.hid (HPc.out.below hb)
  have HL12 := Lib.hid (HL11.out.later hb)
  clear hb
  clear vb0 vbl rb0 rbl wb0 wb1 wb2 wb3 wbl lb0 lb1 lb2 lbl mb0 mbl
  go_wp2_with fail
  have HP13 := Lib.hid (HP12.out.var (ty := 66) (cs := #[.int .i64 z0, .int .i64 z1, .int .i64 z2, .int .i64 z3, .int .i64 z4]) (by decide) (by decide) (by decide))
  have HL13 := Lib.hid (HL12.out.alloc (.cells #[.int .i64 z0, .int .i64 z1, .int .i64 z2, .int .i64 z3, .int .i64 z4] 66))
  generalize w12.alloc (.cells #[.int .i64 z0, .int .i64 z1, .int .i64 z2, .int .i64 z3, .int .i64 z4] 66) = wn at HP13 HL13 ⊢
  generalize w12.heap.size = nb at HP13 ⊢
  go_wp2_with fail
  have HPd := Lib.hid HP13.out.drew
  have HLd := Lib.hid HL13.out.drew
  have hvs : ∀ W, KS w0 [(nb, 66, #[.int .i64 z0, .int .i64 z1, .int .i64 z2, .int .i64 z3, .int .i64 z4]), (rb, 4, #[.bool true]), (wb, 56, #[.int .i64 o, .int .i64 y, .int .i64 0, .int .i64 t0]), (mb + 1, 31, #[.int .i64 2, .int .i64 0, .int .i64 8]), (mb, 28, #[.pointer (some ⟨p, 0, none⟩)])] W → W.cell? ⟨nb, 0, none⟩ = some (.int .i64 z0) ∧ W.cell? ⟨nb, 1, none⟩ = some (.int .i64 z1) ∧ W.cell? ⟨nb, 2, none⟩ = some (.int .i64 z2) ∧ W.cell? ⟨nb, 3, none⟩ = some (.int .i64 z3) ∧ W.cell? ⟨nb, 4, none⟩ = some (.int .i64 z4) ∧ W.cell? ⟨rb, 0, none⟩ = some (.bool true) ∧ W.cell? ⟨wb, 0, none⟩ = some (.int .i64 o) ∧ W.cell? ⟨wb, 1, none⟩ = some (.int .i64 y) ∧ W.cell? ⟨wb, 2, none⟩ = some (.int .i64 0) ∧ W.cell? ⟨wb, 3, none⟩ = some (.int .i64 t0) ∧ W.cell? ⟨mb + 1, 0, none⟩ = some (.int .i64 2) ∧ W.cell? ⟨mb + 1, 1, none⟩ = some (.int .i64 0) ∧ W.cell? ⟨mb + 1, 2, none⟩ = some (.int .i64 8) ∧ W.cell? ⟨mb, 0, none⟩ = some (.pointer (some ⟨p, 0, none⟩)) ∧ W.cell? ⟨w.heap.size, 0, none⟩ = some (.int .u64 v) := fun W h => ⟨h.k.1.b.cell 0, h.k.1.b.cell 1, h.k.1.b.cell 2, h.k.1.b.cell 3, h.k.1.b.cell 4, h.k.2.1.b.cell 0, h.k.2.2.1.b.cell 0, h.k.2.2.1.b.cell 1, h.k.2.2.1.b.cell 2, h.k.2.2.1.b.cell 3, h.k.2.2.2.1.b.cell 0, h.k.2.2.2.1.b.cell 1, h.k.2.2.2.1.b.cell 2, h.k.2.2.2.2.1.b.cell 0, (box_cell (HW0.out ▸ h.be)).1⟩
  refine wp_region_held_drew (S := KS w0 [(nb, 66, #[.int .i64 z0, .int .i64 z1, .int .i64 z2, .int .i64 z3, .int .i64 z4]), (rb, 4, #[.bool true]), (wb, 56, #[.int .i64 o, .int .i64 y, .int .i64 0, .int .i64 t0]), (mb + 1, 31, #[.int .i64 2, .int .i64 0, .int .i64 8]), (mb, 28, #[.pointer (some ⟨p, 0, none⟩)])]) (by kernel_rfl) ?_ (fun hHeld => ?_)
  · exact HPd.out.ks
  refine wpAnyH_take (i := 0) (v := ?_) rfl (by kernel_rfl) (by kernel_rfl) (by kernel_rfl) (fun _ _ _ h => h) (Or.inl ⟨by rfl, ?_⟩) (by assumption) ?_
  rotate_left
  · (intro w hSw; (try dsimp only at hSw); go_simp; try with_reducible rfl)
  try simp only [Act.put, List.setIfInBounds_toArray, List.set_cons_zero, List.set_cons_succ, List.getElem_toArray, List.getElem_cons_zero]
  refine wpAnyH_ready (rs := [1]) (by kernel_rfl) (by simp) ?_
  refine AllReadyH.cons rfl (fun K hK => ?_) ?_
  rotate_left
  · exact AllReadyH.nil
  go_simp
  (go_at_call 27; ((with_reducible refine (look_done HLd.out).mono ?_); rintro e wo ⟨rfl, rfl⟩))
  go_wp2_with fail
  refine hK.out _ _ ?_ (fun hHeld => ?_)
  · (try dsimp only); first | (with_reducible assumption) | (with_reducible exact HPd.out.ks) | (with_reducible exact HPs.out.ks) | (with_reducible exact HPc2.out.ks) | (with_reducible exact HPz.out.ks) | (with_reducible exact HPa.out.ks)
  clear hK K
  try simp only [Act.put, List.setIfInBounds_toArray, List.set_cons_zero, List.set_cons_succ, List.getElem_toArray, List.getElem_cons_zero, List.getElem_cons_succ]
  refine wpAnyH_take (i := 2) (v := ?_) rfl (by kernel_rfl) (by kernel_rfl) (by kernel_rfl) (fun _ _ _ h => h) (Or.inl ⟨by rfl, ?_⟩) (by assumption) ?_
  rotate_left
  · (intro w hSw; (try dsimp only at hSw); go_simp; try with_reducible rfl)
  try simp only [Act.put, List.setIfInBounds_toArray, List.set_cons_zero, List.set_cons_succ, List.getElem_toArray, List.getElem_cons_zero, List.getElem_cons_succ]
  refine wpAnyH_take (i := 3) (v := ?_) rfl (by kernel_rfl) (by kernel_rfl) (by kernel_rfl) (fun _ _ _ h => h) (Or.inl ⟨by rfl, ?_⟩) (by assumption) ?_
  rotate_left
  · (intro w hSw; (try dsimp only at hSw); go_simp; try with_reducible rfl)
  try simp only [Act.put, List.setIfInBounds_toArray, List.set_cons_zero, List.set_cons_succ, List.getElem_toArray, List.getElem_cons_zero, List.getElem_cons_succ]
  refine wpAnyH_take (i := 4) (v := ?_) rfl (by kernel_rfl) (by kernel_rfl) (by kernel_rfl) (fun _ _ _ h => h) (Or.inl ⟨by rfl, ?_⟩) (by assumption) ?_
  rotate_left
  · (intro w hSw; (try dsimp only at hSw); go_simp; try with_reducible rfl)
  try simp only [Act.put, List.setIfInBounds_toArray, List.set_cons_zero, List.set_cons_succ, List.getElem_toArray, List.getElem_cons_zero, List.getElem_cons_succ]
  refine wpAnyH_ready (rs := [5]) (by kernel_rfl) (by simp) ?_
  refine AllReadyH.cons rfl (fun K hK => ?_) ?_
  rotate_left
  · exact AllReadyH.nil
  go_simp
  (go_at_call 29; ((with_reducible refine (look_2 HLd.out).mono ?_); rintro e ws ⟨rfl, hb⟩; have HPs := Lib.hid (HPd.out.below hb); have HLs := Lib.hid (HLd.out.later hb); clear hb))
  go_wp2_with fail
  refine hK.out _ _ ?_ (fun hHeld => ?_)
  · (try dsimp only); first | (with_reducible assumption) | (with_reducible exact HPd.out.ks) | (with_reducible exact HPs.out.ks) | (with_reducible exact HPc2.out.ks) | (with_reducible exact HPz.out.ks) | (with_reducible exact HPa.out.ks)
  clear hK K
  try simp only [Act.put, List.setIfInBounds_toArray, List.set_cons_zero, List.set_cons_succ, List.getElem_toArray, List.getElem_cons_zero, List.getElem_cons_succ]
  refine wpAnyH_take (i := 6) (v := ?_) rfl (by kernel_rfl) (by kernel_rfl) (by kernel_rfl) (fun _ _ _ h => h) (Or.inl ⟨by rfl, ?_⟩) (by assumption) ?_
  rotate_left
  · (intro w hSw; (try dsimp only at hSw); go_simp; try with_reducible rfl)
  try simp only [Act.put, List.setIfInBounds_toArray, List.set_cons_zero, List.set_cons_succ, List.getElem_toArray, List.getElem_cons_zero, List.getElem_cons_succ]
  refine wpAnyH_take (i := 7) (v := ?_) rfl (by kernel_rfl) (by kernel_rfl) (by kernel_rfl) (fun _ _ _ h => h) (Or.inl ⟨by rfl, ?_⟩) (by assumption) ?_
  rotate_left
  · (intro w hSw; (try dsimp only at hSw); go_simp; try with_reducible rfl)
  try simp only [Act.put, List.setIfInBounds_toArray, List.set_cons_zero, List.set_cons_succ, List.getElem_toArray, List.getElem_cons_zero, List.getElem_cons_succ]
  refine wpAnyH_take (i := 8) (v := ?_) rfl (by kernel_rfl) (by kernel_rfl) (by kernel_rfl) (fun _ _ _ h => h) (Or.inl ⟨by rfl, ?_⟩) (by assumption) ?_
  rotate_left
  · (intro w hSw; (try dsimp only at hSw); go_simp; try with_reducible rfl)
  try simp only [Act.put, List.setIfInBounds_toArray, List.set_cons_zero, List.set_cons_succ, List.getElem_toArray, List.getElem_cons_zero, List.getElem_cons_succ]
  refine wpAnyH_take (i := 10) (v := ?_) rfl (by kernel_rfl) (by kernel_rfl) (by kernel_rfl) (fun _ _ _ h => h) (Or.inl ⟨by rfl, ?_⟩) (by assumption) ?_
  rotate_left
  · (intro w hSw; (try dsimp only at hSw); go_simp; try with_reducible rfl)
  try simp only [Act.put, List.setIfInBounds_toArray, List.set_cons_zero, List.set_cons_succ, List.getElem_toArray, List.getElem_cons_zero, List.getElem_cons_succ]
  refine wpAnyH_ready (rs := [9]) (by kernel_rfl) (by simp) ?_
  refine AllReadyH.cons rfl (fun K hK => ?_) ?_
  rotate_left
  · exact AllReadyH.nil
  go_simp
  (go_at_call 30; ((with_reducible refine (counts_is HPs.out.ar HZ.out.1 HZ.out.2.1 HZ.out.2.2.1 HZ.out.2.2.2.1 HZ.out.2.2.2.2).mono ?_); rintro e wc ⟨rfl, hb⟩; have HPc2 := Lib.hid (HPs.out.below hb); have HLc := Lib.hid (HLs.out.later hb); clear hb))
  go_wp2_with fail
  refine hK.out _ _ ?_ (fun hHeld => ?_)
  · (try dsimp only); first | (with_reducible assumption) | (with_reducible exact HPd.out.ks) | (with_reducible exact HPs.out.ks) | (with_reducible exact HPc2.out.ks) | (with_reducible exact HPz.out.ks) | (with_reducible exact HPa.out.ks)
  clear hK K
  try simp only [Act.put, List.setIfInBounds_toArray, List.set_cons_zero, List.set_cons_succ, List.getElem_toArray, List.getElem_cons_zero, List.getElem_cons_succ]
  refine wpAnyH_take (i := 11) (v := ?_) rfl (by kernel_rfl) (by kernel_rfl) (by kernel_rfl) (fun _ _ _ h => h) (Or.inl ⟨by rfl, ?_⟩) (by assumption) ?_
  rotate_left
  · (intro w hSw; (try dsimp only at hSw); go_simp; try with_reducible rfl)
  try simp only [Act.put, List.setIfInBounds_toArray, List.set_cons_zero, List.set_cons_succ, List.getElem_toArray, List.getElem_cons_zero, List.getElem_cons_succ]
  refine wpAnyH_take (i := 12) (v := ?_) rfl (by kernel_rfl) (by kernel_rfl) (by kernel_rfl) (fun _ _ _ h => h) (Or.inl ⟨by rfl, ?_⟩) (by assumption) ?_
  rotate_left
  · (intro w hSw; (try dsimp only at hSw); go_simp; try with_reducible rfl)
  try simp only [Act.put, List.setIfInBounds_toArray, List.set_cons_zero, List.set_cons_succ, List.getElem_toArray, List.getElem_cons_zero, List.getElem_cons_succ]
  refine wpAnyH_take (i := 13) (v := ?_) rfl (by kernel_rfl) (by kernel_rfl) (by kernel_rfl) (fun _ _ _ h => h) (Or.inl ⟨by rfl, ?_⟩) (by assumption) ?_
  rotate_left
  · (intro w hSw; (try dsimp only at hSw); go_simp; try with_reducible rfl)
  try simp only [Act.put, List.setIfInBounds_toArray, List.set_cons_zero, List.set_cons_succ, List.getElem_toArray, List.getElem_cons_zero, List.getElem_cons_succ]
  refine wpAnyH_take (i := 14) (v := ?_) rfl (by kernel_rfl) (by kernel_rfl) (by kernel_rfl) (fun _ _ _ h => h) (Or.inl ⟨by rfl, ?_⟩) (by assumption) ?_
  rotate_left
  · (intro w hSw; (try dsimp only at hSw); go_simp; try with_reducible rfl)
  try simp only [Act.put, List.setIfInBounds_toArray, List.set_cons_zero, List.set_cons_succ, List.getElem_toArray, List.getElem_cons_zero, List.getElem_cons_succ]
  refine wpAnyH_take (i := 15) (v := ?_) rfl (by kernel_rfl) (by kernel_rfl) (by kernel_rfl) (fun _ _ _ h => h) (Or.inl ⟨by rfl, ?_⟩) (by assumption) ?_
  rotate_left
  · (intro w hSw; (try dsimp only at hSw); go_simp; try with_reducible rfl)
  try simp only [Act.put, List.setIfInBounds_toArray, List.set_cons_zero, List.set_cons_succ, List.getElem_toArray, List.getElem_cons_zero, List.getElem_cons_succ]
  refine wpAnyH_take (i := 16) (v := ?_) rfl (by kernel_rfl) (by kernel_rfl) (by kernel_rfl) (fun _ _ _ h => h) (Or.inl ⟨by rfl, ?_⟩) (by assumption) ?_
  rotate_left
  · (intro w hSw; (try dsimp only at hSw); go_simp; try with_reducible rfl)
  try simp only [Act.put, List.setIfInBounds_toArray, List.set_cons_zero, List.set_cons_succ, List.getElem_toArray, List.getElem_cons_zero, List.getElem_cons_succ]
  refine wpAnyH_take (i := 17) (v := ?_) rfl (by kernel_rfl) (by kernel_rfl) (by kernel_rfl) (fun _ _ _ h => h) (Or.inl ⟨by rfl, ?_⟩) (by assumption) ?_
  rotate_left
  · (intro w hSw; (try dsimp only at hSw); go_simp; try with_reducible rfl)
  try simp only [Act.put, List.setIfInBounds_toArray, List.set_cons_zero, List.set_cons_succ, List.getElem_toArray, List.getElem_cons_zero, List.getElem_cons_succ]
  refine wpAnyH_take (i := 18) rfl (by kernel_rfl) (by kernel_rfl) (by kernel_rfl) (fun _ _ _ h => h) (Or.inr ⟨by rfl, rfl⟩) (by assumption) ?_
  try simp only [Act.put, List.setIfInBounds_toArray, List.set_cons_zero, List.set_cons_succ, List.getElem_toArray, List.getElem_cons_zero, List.getElem_cons_succ]
  refine wpAnyH_take (i := 19) (v := ?_) rfl (by kernel_rfl) (by kernel_rfl) (by kernel_rfl) (fun _ _ _ h => h) (Or.inl ⟨by rfl, ?_⟩) (by assumption) ?_
  rotate_left
  · (intro w hSw; (try dsimp only at hSw); go_simp; try with_reducible rfl)
  try simp only [Act.put, List.setIfInBounds_toArray, List.set_cons_zero, List.set_cons_succ, List.getElem_toArray, List.getElem_cons_zero, List.getElem_cons_succ]
  refine wpAnyH_take (i := 20) (v := ?_) rfl (by kernel_rfl) (by kernel_rfl) (by kernel_rfl) (fun _ _ _ h => h) (Or.inl ⟨by rfl, ?_⟩) (by assumption) ?_
  rotate_left
  · (intro w hSw; (try dsimp only at hSw); go_simp; try with_reducible rfl)
  try simp only [Act.put, List.setIfInBounds_toArray, List.set_cons_zero, List.set_cons_succ, List.getElem_toArray, List.getElem_cons_zero, List.getElem_cons_succ]
  refine wpAnyH_take (i := 21) (v := ?_) rfl (by kernel_rfl) (by kernel_rfl) (by kernel_rfl) (fun _ _ _ h => h) (Or.inl ⟨by rfl, ?_⟩) (by assumption) ?_
  rotate_left
  · (intro w hSw; (try dsimp only at hSw); go_simp; try with_reducible rfl)
  try simp only [Act.put, List.setIfInBounds_toArray, List.set_cons_zero, List.set_cons_succ, List.getElem_toArray, List.getElem_cons_zero, List.getElem_cons_succ]
  refine wpAnyH_take (i := 23) (v := ?_) rfl (by kernel_rfl) (by kernel_rfl) (by kernel_rfl) (fun _ _ _ h => h) (Or.inl ⟨by rfl, ?_⟩) (by assumption) ?_
  rotate_left
  · (intro w hSw; (try dsimp only at hSw); go_simp; try with_reducible rfl)
  try simp only [Act.put, List.setIfInBounds_toArray, List.set_cons_zero, List.set_cons_succ, List.getElem_toArray, List.getElem_cons_zero, List.getElem_cons_succ]
  refine wpAnyH_take (i := 24) (v := ?_) rfl (by kernel_rfl) (by kernel_rfl) (by kernel_rfl) (fun _ _ _ h => h) (Or.inl ⟨by rfl, ?_⟩) (by assumption) ?_
  rotate_left
  · (intro w hSw; (try dsimp only at hSw); go_simp; try with_reducible rfl)
  try simp only [Act.put, List.setIfInBounds_toArray, List.set_cons_zero, List.set_cons_succ, List.getElem_toArray, List.getElem_cons_zero, List.getElem_cons_succ]
  refine wpAnyH_ready (rs := [22]) (by kernel_rfl) (by simp) ?_
  refine AllReadyH.cons rfl (fun K hK => ?_) ?_
  rotate_left
  · exact AllReadyH.nil
  go_simp
  (go_at_call 28; ((with_reducible refine (look_value HLc.out).mono ?_); rintro e wo ⟨rfl, rfl⟩))
  go_wp2_with fail
  refine hK.out _ _ ?_ (fun hHeld => ?_)
  · (try dsimp only); first | (with_reducible assumption) | (with_reducible exact HPd.out.ks) | (with_reducible exact HPs.out.ks) | (with_reducible exact HPc2.out.ks) | (with_reducible exact HPz.out.ks) | (with_reducible exact HPa.out.ks)
  clear hK K
  try simp only [Act.put, List.setIfInBounds_toArray, List.set_cons_zero, List.set_cons_succ, List.getElem_toArray, List.getElem_cons_zero, List.getElem_cons_succ]
  refine wpAnyH_ready (rs := [25]) (by kernel_rfl) (by simp) ?_
  refine AllReadyH.cons rfl (fun K hK => ?_) ?_
  rotate_left
  · exact AllReadyH.nil
  go_simp
  (go_at_call 24; ((with_reducible refine (wantC_is HPc2.out.ks.k.tl.hd.cells1.1 HPc2.out.ks.k.tl.tl.hd.cells4.2.2.1 (box_cell (HW0.out ▸ HPc2.out.be)).1 hv0 hv1 hs0 hs1 HWS2.out).mono ?_); rintro e wz ⟨rfl, hb⟩; have HPz := Lib.hid (HPc2.out.below hb); clear hb))
  go_wp2_with fail
  refine hK.out _ _ ?_ (fun hHeld => ?_)
  · (try dsimp only); first | (with_reducible assumption) | (with_reducible exact HPd.out.ks) | (with_reducible exact HPs.out.ks) | (with_reducible exact HPc2.out.ks) | (with_reducible exact HPz.out.ks) | (with_reducible exact HPa.out.ks)
  clear hK K
  try simp only [Act.put, List.setIfInBounds_toArray, List.set_cons_zero, List.set_cons_succ, List.getElem_toArray, List.getElem_cons_zero, List.getElem_cons_succ]
  refine wpAnyH_take (i := 26) (v := ?_) rfl (by kernel_rfl) (by kernel_rfl) (by kernel_rfl) (fun _ _ _ h => h) (Or.inl ⟨by rfl, ?_⟩) (by assumption) ?_
  rotate_left
  · (intro w hSw; (try dsimp only at hSw); go_simp; try with_reducible rfl)
  try simp only [Act.put, List.setIfInBounds_toArray, List.set_cons_zero, List.set_cons_succ, List.getElem_toArray, List.getElem_cons_zero, List.getElem_cons_succ]
  refine wpAnyH_take (i := 27) (v := ?_) rfl (by kernel_rfl) (by kernel_rfl) (by kernel_rfl) (fun _ _ _ h => h) (Or.inl ⟨by rfl, ?_⟩) (by assumption) ?_
  rotate_left
  · (intro w hSw; (try dsimp only at hSw); go_simp; try with_reducible rfl)
  try simp only [Act.put, List.setIfInBounds_toArray, List.set_cons_zero, List.set_cons_succ, List.getElem_toArray, List.getElem_cons_zero, List.getElem_cons_succ]
  refine wpAnyH_take (i := 28) (v := ?_) rfl (by kernel_rfl) (by kernel_rfl) (by kernel_rfl) (fun _ _ _ h => h) (Or.inl ⟨by rfl, ?_⟩) (by assumption) ?_
  rotate_left
  · (intro w hSw; (try dsimp only at hSw); go_simp; try with_reducible rfl)
  try simp only [Act.put, List.setIfInBounds_toArray, List.set_cons_zero, List.set_cons_succ, List.getElem_toArray, List.getElem_cons_zero, List.getElem_cons_succ]
  refine wpAnyH_take (i := 29) (v := ?_) rfl (by kernel_rfl) (by kernel_rfl) (by kernel_rfl) (fun _ _ _ h => h) (Or.inl ⟨by rfl, ?_⟩) (by assumption) ?_
  rotate_left
  · (intro w hSw; (try dsimp only at hSw); go_simp; try with_reducible rfl)
  try simp only [Act.put, List.setIfInBounds_toArray, List.set_cons_zero, List.set_cons_succ, List.getElem_toArray, List.getElem_cons_zero, List.getElem_cons_succ]
  refine wpAnyH_ready (rs := [30]) (by kernel_rfl) (by simp) ?_
  refine AllReadyH.cons rfl (fun K hK => ?_) ?_
  rotate_left
  · exact AllReadyH.nil
  go_simp
  (go_at_call 7; ((with_reducible refine (awake_any _).mono ?_); rintro e wa ⟨rfl, hb⟩; have HPa := Lib.hid (HPz.out.below hb); clear hb))
  go_wp2_with fail
  refine hK.out _ _ ?_ (fun hHeld => ?_)
  · (try dsimp only); first | (with_reducible assumption) | (with_reducible exact HPd.out.ks) | (with_reducible exact HPs.out.ks) | (with_reducible exact HPc2.out.ks) | (with_reducible exact HPz.out.ks) | (with_reducible exact HPa.out.ks)
  clear hK K
  try simp only [Act.put, List.setIfInBounds_toArray, List.set_cons_zero, List.set_cons_succ, List.getElem_toArray, List.getElem_cons_zero, List.getElem_cons_succ]
  refine wpAnyH_take (i := 31) (v := ?_) rfl (by kernel_rfl) (by kernel_rfl) (by kernel_rfl) (fun _ _ _ h => h) (Or.inl ⟨by rfl, ?_⟩) (by assumption) ?_
  rotate_left
  · (intro w hSw; (try dsimp only at hSw); go_simp; try with_reducible rfl)
  try simp only [Act.put, List.setIfInBounds_toArray, List.set_cons_zero, List.set_cons_succ, List.getElem_toArray, List.getElem_cons_zero, List.getElem_cons_succ]
  refine wpAnyH_take (i := 32) (v := ?_) rfl (by kernel_rfl) (by kernel_rfl) (by kernel_rfl) (fun _ _ _ h => h) (Or.inl ⟨by rfl, ?_⟩) (by assumption) ?_
  rotate_left
  · (intro w hSw; (try dsimp only at hSw); go_simp; try with_reducible rfl)
  try simp only [Act.put, List.setIfInBounds_toArray, List.set_cons_zero, List.set_cons_succ, List.getElem_toArray, List.getElem_cons_zero, List.getElem_cons_succ]
  refine wpAnyH_done (by kernel_rfl) ?_ _
  clear hvs
  go_wp2_with fail
  go_ret
  exact ⟨rfl, HB0.out.trans (HPa.out.be.mono HB0.out.size)⟩

set_option maxHeartbeats 4000000 in
theorem looks_wd (v st tn o y th t0 : Int) (w : World) (hv0 : 0 ≤ v) (hv1 : v ≤ 18446744073709551615) (hs0 : 0 ≤ st) (hs1 : st ≤ 18446744073709551615) (ht0 : 0 ≤ tn) (ht1 : tn ≤ 18446744073709551615) (e1 : v / 65536 % 65536 = o) (e2 : v % 65536 = y) (e3 : v / 4294967296 % 256 = th) (e4 : v / 1099511627776 = t0) (hr : rightV v = true) (h0 : 0 < th) :
    Calls Try.prog 4 #[.int .u64 v, .int .u64 st, .int .u64 tn] w fun e w' => e = .returned (.bool true) ∧ Below w.heap.size w w' := by
  have HI := Lib.hid (isW_parts e1 e2 e3 e4 hr)
  obtain ⟨q1, q2, q3, q4, q5, q6, q7, q8⟩ := right_bd HI.out.right
  obtain ⟨t, htn, ht⟩ : ∃ t : Nat, t < 8 ∧ th = (t : Int) + 1 := ⟨(th - 1).toNat, by omega, by omega⟩
  have hth := Lib.hid ht
  have h0n : th ≠ 0 := by omega
  have hne : (th == 0) = false := by rw [beq_eq_false_iff_ne]; exact h0n
  have HWS : Hid (wantF true th v st = mnS o y th t0 st) := Lib.hid (means_want HI.out.right h0 e1 e2 e3 e4 hs0)
  have HWT : Hid (wantF true th v tn = mnS o y th t0 tn) := Lib.hid (means_want HI.out.right h0 e1 e2 e3 e4 ht0)
  clear ht q1 q2 q3 q4 q7 q8
  have HRW : Hid (rightW o y th t0 = true) := Lib.hid (by have := hr; unfold rightV at this; rw [e1, e2, e3, e4] at this; exact this)
  have HE := Lib.hid (And.intro e1 (And.intro e2 (And.intro e3 e4)))
  clear e1 e2 e3 e4 hr
  go_enter Try.func4, Try.ntmps4
  go_wp2_with fail
  have HB0 : Hid (Below w.heap.size w (w.alloc (.cells #[.int .u64 v] 37))) := Lib.hid ((Below.refl _ _).alloc (Nat.le_refl _) _)
  generalize hw0 : w.alloc (.cells #[.int .u64 v] 37) = w0 at HB0 ⊢
  have HW0 := Lib.hid hw0
  clear hw0
  refine begun_any.mono ?_; rintro e w1 ⟨p, g, rfl, np, ng, A1, hb⟩
  have HP0 := Lib.hid (PK.first A1 cb_zero hb np ng)
  clear A1 np ng hb
  go_wp2_with fail
  refine (pm_of p _).mono ?_; rintro e w1 ⟨rfl, hb⟩
  have HP1 := Lib.hid (HP0.out.below hb)
  clear hb
  go_wp2_with fail
  refine (small_any).mono ?_; rintro e w2 ⟨rfl, hb⟩
  have HP2 := Lib.hid (HP1.out.below hb)
  clear hb
  have HP3 := Lib.hid HP2.out.vars2
  have HQ0 := HP3.out.np
  go_wp2_with fail
  generalize (w2.alloc (.cells #[.pointer (some ⟨p, 0, none⟩)] 28)).alloc (.cells #[.int .i64 2, .int .i64 0, .int .i64 8] 31) = wv at HP3 ⊢
  generalize w2.heap.size = mb at HP3 ⊢
  clear HQ0
  go_wp2_with fail
  have HPd := Lib.hid HP3.out.drew
  have hvs : ∀ W, KS w0 [(mb + 1, 31, #[.int .i64 2, .int .i64 0, .int .i64 8]), (mb, 28, #[.pointer (some ⟨p, 0, none⟩)])] W → W.cell? ⟨mb + 1, 0, none⟩ = some (.int .i64 2) ∧ W.cell? ⟨mb + 1, 1, none⟩ = some (.int .i64 0) ∧ W.cell? ⟨mb + 1, 2, none⟩ = some (.int .i64 8) ∧ W.cell? ⟨mb, 0, none⟩ = some (.pointer (some ⟨p, 0, none⟩)) ∧ W.cell? ⟨w.heap.size, 0, none⟩ = some (.int .u64 v) := fun W h => ⟨h.k.1.b.cell 0, h.k.1.b.cell 1, h.k.1.b.cell 2, h.k.2.1.b.cell 0, (box_cell (HW0.out ▸ h.be)).1⟩
  go_region_held3 (KS w0 [(mb + 1, 31, #[.int .i64 2, .int .i64 0, .int .i64 8]), (mb, 28, #[.pointer (some ⟨p, 0, none⟩)])]) (first | (with_reducible assumption) | (with_reducible exact HPd.out.ks) | (with_reducible exact HPt.out.ks) | (with_reducible exact HP4.out.ks))
    (first
      | (go_at_call 12; ((with_reducible refine at_0.mono ?_); rintro e wt ⟨rfl, hb⟩; have HPt := Lib.hid (HPd.out.below hb); clear hb))
      | (go_at_call 11; ((with_reducible refine (store_yes HPt.out.ar (atK_lt (by omega)) hv0 hv1 HPt.out.cb (by omega)).mono ?_); rintro e w4 ⟨rfl, A5, O5⟩; have HP4 := Lib.hid (HPt.out.arena A5 (HPt.out.cb.upd 1) O5); clear A5 O5)))
  clear hvs
  clear HPd HPt
  obtain ⟨lb0, lb1, lb2, lbl⟩ := HP4.out.ks.k.1.cells3
  obtain ⟨mb0, mbl⟩ := HP4.out.ks.k.2.1.cells1
  obtain ⟨vb0, vbl⟩ := box_cell (HW0.out ▸ HP4.out.be)
  go_wp2_with fail
  refine (rparts_is hv0 hv1 HE.out.1 HE.out.2.1 HE.out.2.2.1 HE.out.2.2.2).mono ?_; rintro e w5 ⟨rfl, hb⟩
  have HP5 := Lib.hid (HP4.out.below hb)
  clear hb
  clear vb0 vbl lb0 lb1 lb2 lbl mb0 mbl
  go_wp2_with fail
  have HP6 := Lib.hid (HP5.out.var (ty := 56) (cs := #[.int .i64 o, .int .i64 y, .int .i64 th, .int .i64 t0]) (by decide) (by decide) (by decide))
  generalize w5.alloc (.cells #[.int .i64 o, .int .i64 y, .int .i64 th, .int .i64 t0] 56) = wx at HP6 ⊢
  generalize w5.heap.size = wb at HP6 ⊢
  refine (wrright_is HRW.out).mono ?_; rintro e w7 ⟨rfl, hb⟩
  have HP7 := Lib.hid (HP6.out.below hb)
  clear hb
  obtain ⟨wb0, wb1, wb2, wb3, wbl⟩ := HP7.out.ks.k.1.cells4
  obtain ⟨lb0, lb1, lb2, lbl⟩ := HP7.out.ks.k.2.1.cells3
  obtain ⟨mb0, mbl⟩ := HP7.out.ks.k.2.2.1.cells1
  obtain ⟨vb0, vbl⟩ := box_cell (HW0.out ▸ HP7.out.be)
  go_wp2_with fail
  clear vb0 vbl wb0 wb1 wb2 wb3 wbl lb0 lb1 lb2 lbl mb0 mbl
  have HP8 := Lib.hid (HP7.out.var (ty := 4) (cs := #[.bool true]) (by decide) (by decide) (by decide))
  generalize w7.alloc (.cells #[.bool true] 4) = wy at HP8 ⊢
  generalize w7.heap.size = rb at HP8 ⊢
  refine (st_is htn hth.out).mono ?_; rintro e w9 ⟨rfl, hb⟩
  have HP9 := Lib.hid (HP8.out.below hb)
  clear hb
  obtain ⟨rb0, rbl⟩ := HP9.out.ks.k.1.cells1
  obtain ⟨wb0, wb1, wb2, wb3, wbl⟩ := HP9.out.ks.k.2.1.cells4
  obtain ⟨lb0, lb1, lb2, lbl⟩ := HP9.out.ks.k.2.2.1.cells3
  obtain ⟨mb0, mbl⟩ := HP9.out.ks.k.2.2.2.1.cells1
  obtain ⟨vb0, vbl⟩ := box_cell (HW0.out ▸ HP9.out.be)
  go_wp2_with fail
  refine (store_yes HP9.out.ar (by omega) hs0 hs1 HP9.out.cb (by omega)).mono ?_; rintro e w10 ⟨rfl, A5, O5⟩
  have HP10 := Lib.hid (HP9.out.arena A5 (HP9.out.cb.upd 1) O5)
  clear A5 O5
  clear vb0 vbl rb0 rbl wb0 wb1 wb2 wb3 wbl lb0 lb1 lb2 lbl mb0 mbl
  obtain ⟨rb0, rbl⟩ := HP10.out.ks.k.1.cells1
  obtain ⟨wb0, wb1, wb2, wb3, wbl⟩ := HP10.out.ks.k.2.1.cells4
  obtain ⟨lb0, lb1, lb2, lbl⟩ := HP10.out.ks.k.2.2.1.cells3
  obtain ⟨mb0, mbl⟩ := HP10.out.ks.k.2.2.2.1.cells1
  obtain ⟨vb0, vbl⟩ := box_cell (HW0.out ▸ HP10.out.be)
  have HF : Hid ((upd (upd zeroF (atK 0) v) t st) (atK 0) = v) := Lib.hid (by rw [upd_other _ _ (by have := atK_ge 0; omega), upd_same])
  have HFs : Hid ((upd (upd zeroF (atK 0) v) t st) t = st) := Lib.hid (upd_same _ _ _)
  go_wp2_with fail
  have HPd := Lib.hid HP10.out.drew
  clear vb0 vbl rb0 rbl wb0 wb1 wb2 wb3 wbl lb0 lb1 lb2 lbl mb0 mbl
  have hvs : ∀ W, KS w0 [(rb, 4, #[.bool true]), (wb, 56, #[.int .i64 o, .int .i64 y, .int .i64 th, .int .i64 t0]), (mb + 1, 31, #[.int .i64 2, .int .i64 0, .int .i64 8]), (mb, 28, #[.pointer (some ⟨p, 0, none⟩)])] W → W.cell? ⟨rb, 0, none⟩ = some (.bool true) ∧ W.cell? ⟨wb, 0, none⟩ = some (.int .i64 o) ∧ W.cell? ⟨wb, 1, none⟩ = some (.int .i64 y) ∧ W.cell? ⟨wb, 2, none⟩ = some (.int .i64 th) ∧ W.cell? ⟨wb, 3, none⟩ = some (.int .i64 t0) ∧ W.cell? ⟨mb + 1, 0, none⟩ = some (.int .i64 2) ∧ W.cell? ⟨mb + 1, 1, none⟩ = some (.int .i64 0) ∧ W.cell? ⟨mb + 1, 2, none⟩ = some (.int .i64 8) ∧ W.cell? ⟨mb, 0, none⟩ = some (.pointer (some ⟨p, 0, none⟩)) ∧ W.cell? ⟨w.heap.size, 0, none⟩ = some (.int .u64 v) := fun W h => ⟨h.k.1.b.cell 0, h.k.2.1.b.cell 0, h.k.2.1.b.cell 1, h.k.2.1.b.cell 2, h.k.2.1.b.cell 3, h.k.2.2.1.b.cell 0, h.k.2.2.1.b.cell 1, h.k.2.2.1.b.cell 2, h.k.2.2.2.1.b.cell 0, (box_cell (HW0.out ▸ h.be)).1⟩
  go_region_held3 (KS w0 [(rb, 4, #[.bool true]), (wb, 56, #[.int .i64 o, .int .i64 y, .int .i64 th, .int .i64 t0]), (mb + 1, 31, #[.int .i64 2, .int .i64 0, .int .i64 8]), (mb, 28, #[.pointer (some ⟨p, 0, none⟩)])]) (first | (with_reducible assumption) | (with_reducible exact HPd.out.ks) | (with_reducible exact HPt.out.ks) | (with_reducible exact HP11.out.ks))
    (first
      | (go_at_call 12; ((with_reducible refine at_0.mono ?_); rintro e wt ⟨rfl, hb⟩; have HPt := Lib.hid (HPd.out.below hb); clear hb))
      | (go_at_call 26; ((with_reducible refine look_8.mono ?_); rintro e w11 ⟨q, rfl, hq, L5, hb⟩; have HP11 := Lib.hid (HPt.out.below hb); have HL11 := Lib.hid L5; have HQ := Lib.hid (Nat.le_trans HPt.out.be.size hq); clear L5 hq hb)))
  clear hvs
  clear HPd HPt
  go_wp2_with fail
  have HPd := Lib.hid HP11.out.drew
  have HLd := Lib.hid HL11.out.drew
  have hvs : ∀ W, KS w0 [(rb, 4, #[.bool true]), (wb, 56, #[.int .i64 o, .int .i64 y, .int .i64 th, .int .i64 t0]), (mb + 1, 31, #[.int .i64 2, .int .i64 0, .int .i64 8]), (mb, 28, #[.pointer (some ⟨p, 0, none⟩)])] W → W.cell? ⟨rb, 0, none⟩ = some (.bool true) ∧ W.cell? ⟨wb, 0, none⟩ = some (.int .i64 o) ∧ W.cell? ⟨wb, 1, none⟩ = some (.int .i64 y) ∧ W.cell? ⟨wb, 2, none⟩ = some (.int .i64 th) ∧ W.cell? ⟨wb, 3, none⟩ = some (.int .i64 t0) ∧ W.cell? ⟨mb + 1, 0, none⟩ = some (.int .i64 2) ∧ W.cell? ⟨mb + 1, 1, none⟩ = some (.int .i64 0) ∧ W.cell? ⟨mb + 1, 2, none⟩ = some (.int .i64 8) ∧ W.cell? ⟨mb, 0, none⟩ = some (.pointer (some ⟨p, 0, none⟩)) ∧ W.cell? ⟨w.heap.size, 0, none⟩ = some (.int .u64 v) := fun W h => ⟨h.k.1.b.cell 0, h.k.2.1.b.cell 0, h.k.2.1.b.cell 1, h.k.2.1.b.cell 2, h.k.2.1.b.cell 3, h.k.2.2.1.b.cell 0, h.k.2.2.1.b.cell 1, h.k.2.2.1.b.cell 2, h.k.2.2.2.1.b.cell 0, (box_cell (HW0.out ▸ h.be)).1⟩
  go_region_held3 (KS w0 [(rb, 4, #[.bool true]), (wb, 56, #[.int .i64 o, .int .i64 y, .int .i64 th, .int .i64 t0]), (mb + 1, 31, #[.int .i64 2, .int .i64 0, .int .i64 8]), (mb, 28, #[.pointer (some ⟨p, 0, none⟩)])]) (first | (with_reducible assumption) | (with_reducible exact HPd.out.ks) | (with_reducible exact HPt.out.ks) | (with_reducible exact HPm.out.ks) | (with_reducible exact HP12.out.ks))
    (first
      | (go_at_call 27; ((with_reducible refine (look_done HLd.out).mono ?_); rintro e wo ⟨rfl, rfl⟩))
      | (go_at_call 28; ((with_reducible refine (look_value HLd.out).mono ?_); rintro e wo ⟨rfl, rfl⟩))
      | (go_at_call 12; ((with_reducible refine at_0.mono ?_); rintro e wt ⟨rfl, hb⟩; have HPt := Lib.hid (HPd.out.below hb); have HLt := Lib.hid (HLd.out.later hb); clear hb))
      | (go_at_call 19; ((with_reducible refine (Means_8 HPt.out.ar (atK_lt (by omega)) (mn_word HI.out hth.out HF.out HFs.out) HPt.out.cb (by omega)).mono ?_); rintro e wm ⟨rfl, c5, A5, C5, _, O5⟩; have HPm := Lib.hid (HPt.out.arena A5 C5 O5); have HLm := Lib.hid (HLt.out.arena HPt.out.ar O5); clear A5 C5 O5))
      | (go_at_call 24; ((with_reducible refine (wantC_is HPm.out.ks.k.hd.cells1.1 HPm.out.ks.k.tl.hd.cells4.2.2.1 (box_cell (HW0.out ▸ HPm.out.be)).1 hv0 hv1 hs0 hs1 HWS.out).mono ?_); rintro e w12 ⟨rfl, hb⟩; have HP12 := Lib.hid (HPm.out.below hb); have HL12 := Lib.hid (HLm.out.later hb); clear hb)))
  clear hvs
  clear HPd HPt HPm HLd HLt HLm
  have HIF := Lib.hid (isW_is HF.out HI.out)
  have HWS2 := HWS
  go_wp2_with fail
  have HPd := Lib.hid HP12.out.drew
  have HLd := Lib.hid HL12.out.drew
  have hvs : ∀ W, KS w0 [(rb, 4, #[.bool true]), (wb, 56, #[.int .i64 o, .int .i64 y, .int .i64 th, .int .i64 t0]), (mb + 1, 31, #[.int .i64 2, .int .i64 0, .int .i64 8]), (mb, 28, #[.pointer (some ⟨p, 0, none⟩)])] W → W.cell? ⟨rb, 0, none⟩ = some (.bool true) ∧ W.cell? ⟨wb, 0, none⟩ = some (.int .i64 o) ∧ W.cell? ⟨wb, 1, none⟩ = some (.int .i64 y) ∧ W.cell? ⟨wb, 2, none⟩ = some (.int .i64 th) ∧ W.cell? ⟨wb, 3, none⟩ = some (.int .i64 t0) ∧ W.cell? ⟨mb + 1, 0, none⟩ = some (.int .i64 2) ∧ W.cell? ⟨mb + 1, 1, none⟩ = some (.int .i64 0) ∧ W.cell? ⟨mb + 1, 2, none⟩ = some (.int .i64 8) ∧ W.cell? ⟨mb, 0, none⟩ = some (.pointer (some ⟨p, 0, none⟩)) ∧ W.cell? ⟨w.heap.size, 0, none⟩ = some (.int .u64 v) := fun W h => ⟨h.k.1.b.cell 0, h.k.2.1.b.cell 0, h.k.2.1.b.cell 1, h.k.2.1.b.cell 2, h.k.2.1.b.cell 3, h.k.2.2.1.b.cell 0, h.k.2.2.1.b.cell 1, h.k.2.2.1.b.cell 2, h.k.2.2.2.1.b.cell 0, (box_cell (HW0.out ▸ h.be)).1⟩
  go_region_held3 (KS w0 [(rb, 4, #[.bool true]), (wb, 56, #[.int .i64 o, .int .i64 y, .int .i64 th, .int .i64 t0]), (mb + 1, 31, #[.int .i64 2, .int .i64 0, .int .i64 8]), (mb, 28, #[.pointer (some ⟨p, 0, none⟩)])]) (first | (with_reducible assumption) | (with_reducible exact HPd.out.ks) | (with_reducible exact HP13.out.ks))
    (first
      | (go_at_call 29; ((with_reducible refine (look_0word HPd.out.ar HLd.out (atK_lt (by omega)) HIF.out h0n HPd.out.cb (by omega)).mono ?_); rintro e w13 ⟨rfl, A5, L5, O5⟩; have HP13 := Lib.hid (HPd.out.look HLd.out HQ.out A5 (HPd.out.cb.upd 0) O5); have HL13 := Lib.hid L5; clear A5 L5 O5)))
  clear hvs
  clear HPd HLd
  obtain ⟨rb0, rbl⟩ := HP13.out.ks.k.1.cells1
  obtain ⟨wb0, wb1, wb2, wb3, wbl⟩ := HP13.out.ks.k.2.1.cells4
  obtain ⟨lb0, lb1, lb2, lbl⟩ := HP13.out.ks.k.2.2.1.cells3
  obtain ⟨mb0, mbl⟩ := HP13.out.ks.k.2.2.2.1.cells1
  obtain ⟨vb0, vbl⟩ := box_cell (HW0.out ▸ HP13.out.be)
  go_wp2_with fail
  refine (st_is htn hth.out).mono ?_; rintro e w14 ⟨rfl, hb⟩
  have HP14 := Lib.hid (HP13.out.below hb)
  have HL14 := Lib.hid (HL13.out.later hb)
  clear hb
  clear vb0 vbl rb0 rbl wb0 wb1 wb2 wb3 wbl lb0 lb1 lb2 lbl mb0 mbl
  obtain ⟨rb0, rbl⟩ := HP14.out.ks.k.1.cells1
  obtain ⟨wb0, wb1, wb2, wb3, wbl⟩ := HP14.out.ks.k.2.1.cells4
  obtain ⟨lb0, lb1, lb2, lbl⟩ := HP14.out.ks.k.2.2.1.cells3
  obtain ⟨mb0, mbl⟩ := HP14.out.ks.k.2.2.2.1.cells1
  obtain ⟨vb0, vbl⟩ := box_cell (HW0.out ▸ HP14.out.be)
  go_wp2_with fail
  refine (store_yes HP14.out.ar (by omega) ht0 ht1 HP14.out.cb (by omega)).mono ?_; rintro e w15 ⟨rfl, A5, O5⟩
  have HP15 := Lib.hid (HP14.out.arena A5 (HP14.out.cb.upd 1) O5)
  have HL15 := Lib.hid (HL14.out.arena HP14.out.ar O5)
  clear A5 O5
  clear vb0 vbl rb0 rbl wb0 wb1 wb2 wb3 wbl lb0 lb1 lb2 lbl mb0 mbl
  obtain ⟨rb0, rbl⟩ := HP15.out.ks.k.1.cells1
  obtain ⟨wb0, wb1, wb2, wb3, wbl⟩ := HP15.out.ks.k.2.1.cells4
  obtain ⟨lb0, lb1, lb2, lbl⟩ := HP15.out.ks.k.2.2.1.cells3
  obtain ⟨mb0, mbl⟩ := HP15.out.ks.k.2.2.2.1.cells1
  obtain ⟨vb0, vbl⟩ := box_cell (HW0.out ▸ HP15.out.be)
  have HFt : Hid ((upd (upd (upd zeroF (atK 0) v) t st) t tn) t = tn) := Lib.hid (upd_same _ _ _)
  go_wp2_with fail
  refine (look_1 (t := t) rt8 HRW.out hth.out (by omega) HP15.out.ar (by omega) HL15.out HP15.out.cb (by omega)).mono ?_; rintro e w16 ⟨rfl, A5, L5, O5⟩
  rw [HFt.out] at L5
  have HP16 := Lib.hid (HP15.out.look HL15.out HQ.out A5 (HP15.out.cb.upd 0) O5)
  have HL16 := Lib.hid L5
  clear A5 L5 O5
  clear vb0 vbl rb0 rbl wb0 wb1 wb2 wb3 wbl lb0 lb1 lb2 lbl mb0 mbl
  obtain ⟨rb0, rbl⟩ := HP16.out.ks.k.1.cells1
  obtain ⟨wb0, wb1, wb2, wb3, wbl⟩ := HP16.out.ks.k.2.1.cells4
  obtain ⟨lb0, lb1, lb2, lbl⟩ := HP16.out.ks.k.2.2.1.cells3
  obtain ⟨mb0, mbl⟩ := HP16.out.ks.k.2.2.2.1.cells1
  obtain ⟨vb0, vbl⟩ := box_cell (HW0.out ▸ HP16.out.be)
  go_wp2_with fail
  refine (look_value HL16.out).mono ?_; rintro e wo ⟨rfl, rfl⟩
  go_wp2_with fail
  refine (wantC_is HP16.out.ks.k.hd.cells1.1 HP16.out.ks.k.tl.hd.cells4.2.2.1 (box_cell (HW0.out ▸ HP16.out.be)).1 hv0 hv1 ht0 ht1 HWT.out).mono ?_; rintro e w17 ⟨rfl, hb⟩
  have HP17 := Lib.hid (HP16.out.below hb)
  have HL17 := Lib.hid (HL16.out.later hb)
  clear hb
  clear vb0 vbl rb0 rbl wb0 wb1 wb2 wb3 wbl lb0 lb1 lb2 lbl mb0 mbl
  obtain ⟨rb0, rbl⟩ := HP17.out.ks.k.1.cells1
  obtain ⟨wb0, wb1, wb2, wb3, wbl⟩ := HP17.out.ks.k.2.1.cells4
  obtain ⟨lb0, lb1, lb2, lbl⟩ := HP17.out.ks.k.2.2.1.cells3
  obtain ⟨mb0, mbl⟩ := HP17.out.ks.k.2.2.2.1.cells1
  obtain ⟨vb0, vbl⟩ := box_cell (HW0.out ▸ HP17.out.be)
  obtain ⟨cc, ff, HPc⟩ : ∃ cc ff, Hid (PK w0 p g _ [(rb, 4, #[.bool true]), (wb, 56, #[.int .i64 o, .int .i64 y, .int .i64 th, .int .i64 t0]), (mb + 1, 31, #[.int .i64 2, .int .i64 0, .int .i64 8]), (mb, 28, #[.pointer (some ⟨p, 0, none⟩)])] cc ff _) := ⟨_, _, HP17⟩
  obtain ⟨z0, hz0⟩ : ∃ z, cc 0 = z := ⟨_, rfl⟩
  obtain ⟨z1, hz1⟩ : ∃ z, cc 1 = z := ⟨_, rfl⟩
  obtain ⟨z2, hz2⟩ : ∃ z, cc 2 = z := ⟨_, rfl⟩
  obtain ⟨z3, hz3⟩ : ∃ z, cc 3 = z := ⟨_, rfl⟩
  obtain ⟨z4, hz4⟩ : ∃ z, cc 4 = z := ⟨_, rfl⟩
  have HZ := Lib.hid (And.intro hz0 (And.intro hz1 (And.intro hz2 (And.intro hz3 hz4))))
  clear hz0 hz1 hz2 hz3 hz4
  go_wp2_with fail
  refine (counts_is HPc.out.ar HZ.out.1 HZ.out.2.1 HZ.out.2.2.1 HZ.out.2.2.2.1 HZ.out.2.2.2.2).mono ?_; rintro e w18 ⟨rfl, hb⟩
  have HP18 := Lib.hid (HPc.out.below hb)
  have HL18 := Lib.hid (HL17.out.later hb)
  clear hb
  clear vb0 vbl rb0 rbl wb0 wb1 wb2 wb3 wbl lb0 lb1 lb2 lbl mb0 mbl
  go_wp2_with fail
  have HP19 := Lib.hid (HP18.out.var (ty := 66) (cs := #[.int .i64 z0, .int .i64 z1, .int .i64 z2, .int .i64 z3, .int .i64 z4]) (by decide) (by decide) (by decide))
  have HL19 := Lib.hid (HL18.out.alloc (.cells #[.int .i64 z0, .int .i64 z1, .int .i64 z2, .int .i64 z3, .int .i64 z4] 66))
  generalize w18.alloc (.cells #[.int .i64 z0, .int .i64 z1, .int .i64 z2, .int .i64 z3, .int .i64 z4] 66) = wn at HP19 HL19 ⊢
  generalize w18.heap.size = nb at HP19 ⊢
  go_wp2_with fail
  have HPd := Lib.hid HP19.out.drew
  have HLd := Lib.hid HL19.out.drew
  have hvs : ∀ W, KS w0 [(nb, 66, #[.int .i64 z0, .int .i64 z1, .int .i64 z2, .int .i64 z3, .int .i64 z4]), (rb, 4, #[.bool true]), (wb, 56, #[.int .i64 o, .int .i64 y, .int .i64 th, .int .i64 t0]), (mb + 1, 31, #[.int .i64 2, .int .i64 0, .int .i64 8]), (mb, 28, #[.pointer (some ⟨p, 0, none⟩)])] W → W.cell? ⟨nb, 0, none⟩ = some (.int .i64 z0) ∧ W.cell? ⟨nb, 1, none⟩ = some (.int .i64 z1) ∧ W.cell? ⟨nb, 2, none⟩ = some (.int .i64 z2) ∧ W.cell? ⟨nb, 3, none⟩ = some (.int .i64 z3) ∧ W.cell? ⟨nb, 4, none⟩ = some (.int .i64 z4) ∧ W.cell? ⟨rb, 0, none⟩ = some (.bool true) ∧ W.cell? ⟨wb, 0, none⟩ = some (.int .i64 o) ∧ W.cell? ⟨wb, 1, none⟩ = some (.int .i64 y) ∧ W.cell? ⟨wb, 2, none⟩ = some (.int .i64 th) ∧ W.cell? ⟨wb, 3, none⟩ = some (.int .i64 t0) ∧ W.cell? ⟨mb + 1, 0, none⟩ = some (.int .i64 2) ∧ W.cell? ⟨mb + 1, 1, none⟩ = some (.int .i64 0) ∧ W.cell? ⟨mb + 1, 2, none⟩ = some (.int .i64 8) ∧ W.cell? ⟨mb, 0, none⟩ = some (.pointer (some ⟨p, 0, none⟩)) ∧ W.cell? ⟨w.heap.size, 0, none⟩ = some (.int .u64 v) := fun W h => ⟨h.k.1.b.cell 0, h.k.1.b.cell 1, h.k.1.b.cell 2, h.k.1.b.cell 3, h.k.1.b.cell 4, h.k.2.1.b.cell 0, h.k.2.2.1.b.cell 0, h.k.2.2.1.b.cell 1, h.k.2.2.1.b.cell 2, h.k.2.2.1.b.cell 3, h.k.2.2.2.1.b.cell 0, h.k.2.2.2.1.b.cell 1, h.k.2.2.2.1.b.cell 2, h.k.2.2.2.2.1.b.cell 0, (box_cell (HW0.out ▸ h.be)).1⟩
  refine wp_region_held_drew (S := KS w0 [(nb, 66, #[.int .i64 z0, .int .i64 z1, .int .i64 z2, .int .i64 z3, .int .i64 z4]), (rb, 4, #[.bool true]), (wb, 56, #[.int .i64 o, .int .i64 y, .int .i64 th, .int .i64 t0]), (mb + 1, 31, #[.int .i64 2, .int .i64 0, .int .i64 8]), (mb, 28, #[.pointer (some ⟨p, 0, none⟩)])]) (by kernel_rfl) ?_ (fun hHeld => ?_)
  · exact HPd.out.ks
  refine wpAnyH_take (i := 0) (v := ?_) rfl (by kernel_rfl) (by kernel_rfl) (by kernel_rfl) (fun _ _ _ h => h) (Or.inl ⟨by rfl, ?_⟩) (by assumption) ?_
  rotate_left
  · (intro w hSw; (try dsimp only at hSw); go_simp; try with_reducible rfl)
  try simp only [Act.put, List.setIfInBounds_toArray, List.set_cons_zero, List.set_cons_succ, List.getElem_toArray, List.getElem_cons_zero]
  refine wpAnyH_ready (rs := [1]) (by kernel_rfl) (by simp) ?_
  refine AllReadyH.cons rfl (fun K hK => ?_) ?_
  rotate_left
  · exact AllReadyH.nil
  go_simp
  (go_at_call 27; ((with_reducible refine (look_done HLd.out).mono ?_); rintro e wo ⟨rfl, rfl⟩))
  go_wp2_with fail
  refine hK.out _ _ ?_ (fun hHeld => ?_)
  · (try dsimp only); first | (with_reducible assumption) | (with_reducible exact HPd.out.ks) | (with_reducible exact HPs.out.ks) | (with_reducible exact HPc2.out.ks) | (with_reducible exact HPa.out.ks)
  clear hK K
  try simp only [Act.put, List.setIfInBounds_toArray, List.set_cons_zero, List.set_cons_succ, List.getElem_toArray, List.getElem_cons_zero, List.getElem_cons_succ]
  refine wpAnyH_take (i := 2) (v := ?_) rfl (by kernel_rfl) (by kernel_rfl) (by kernel_rfl) (fun _ _ _ h => h) (Or.inl ⟨by rfl, ?_⟩) (by assumption) ?_
  rotate_left
  · (intro w hSw; (try dsimp only at hSw); go_simp; try with_reducible rfl)
  try simp only [Act.put, List.setIfInBounds_toArray, List.set_cons_zero, List.set_cons_succ, List.getElem_toArray, List.getElem_cons_zero, List.getElem_cons_succ]
  refine wpAnyH_take (i := 3) (v := ?_) rfl (by kernel_rfl) (by kernel_rfl) (by kernel_rfl) (fun _ _ _ h => h) (Or.inl ⟨by rfl, ?_⟩) (by assumption) ?_
  rotate_left
  · (intro w hSw; (try dsimp only at hSw); go_simp; try with_reducible rfl)
  try simp only [Act.put, List.setIfInBounds_toArray, List.set_cons_zero, List.set_cons_succ, List.getElem_toArray, List.getElem_cons_zero, List.getElem_cons_succ]
  refine wpAnyH_take (i := 4) (v := ?_) rfl (by kernel_rfl) (by kernel_rfl) (by kernel_rfl) (fun _ _ _ h => h) (Or.inl ⟨by rfl, ?_⟩) (by assumption) ?_
  rotate_left
  · (intro w hSw; (try dsimp only at hSw); go_simp; try with_reducible rfl)
  try simp only [Act.put, List.setIfInBounds_toArray, List.set_cons_zero, List.set_cons_succ, List.getElem_toArray, List.getElem_cons_zero, List.getElem_cons_succ]
  refine wpAnyH_ready (rs := [5]) (by kernel_rfl) (by simp) ?_
  refine AllReadyH.cons rfl (fun K hK => ?_) ?_
  rotate_left
  · exact AllReadyH.nil
  go_simp
  (go_at_call 29; ((with_reducible refine (look_2 HLd.out).mono ?_); rintro e ws ⟨rfl, hb⟩; have HPs := Lib.hid (HPd.out.below hb); have HLs := Lib.hid (HLd.out.later hb); clear hb))
  go_wp2_with fail
  refine hK.out _ _ ?_ (fun hHeld => ?_)
  · (try dsimp only); first | (with_reducible assumption) | (with_reducible exact HPd.out.ks) | (with_reducible exact HPs.out.ks) | (with_reducible exact HPc2.out.ks) | (with_reducible exact HPa.out.ks)
  clear hK K
  try simp only [Act.put, List.setIfInBounds_toArray, List.set_cons_zero, List.set_cons_succ, List.getElem_toArray, List.getElem_cons_zero, List.getElem_cons_succ]
  refine wpAnyH_take (i := 6) (v := ?_) rfl (by kernel_rfl) (by kernel_rfl) (by kernel_rfl) (fun _ _ _ h => h) (Or.inl ⟨by rfl, ?_⟩) (by assumption) ?_
  rotate_left
  · (intro w hSw; (try dsimp only at hSw); go_simp; try with_reducible rfl)
  try simp only [Act.put, List.setIfInBounds_toArray, List.set_cons_zero, List.set_cons_succ, List.getElem_toArray, List.getElem_cons_zero, List.getElem_cons_succ]
  refine wpAnyH_take (i := 7) (v := ?_) rfl (by kernel_rfl) (by kernel_rfl) (by kernel_rfl) (fun _ _ _ h => h) (Or.inl ⟨by rfl, ?_⟩) (by assumption) ?_
  rotate_left
  · (intro w hSw; (try dsimp only at hSw); go_simp; try with_reducible rfl)
  try simp only [Act.put, List.setIfInBounds_toArray, List.set_cons_zero, List.set_cons_succ, List.getElem_toArray, List.getElem_cons_zero, List.getElem_cons_succ]
  refine wpAnyH_take (i := 8) (v := ?_) rfl (by kernel_rfl) (by kernel_rfl) (by kernel_rfl) (fun _ _ _ h => h) (Or.inl ⟨by rfl, ?_⟩) (by assumption) ?_
  rotate_left
  · (intro w hSw; (try dsimp only at hSw); go_simp; try with_reducible rfl)
  try simp only [Act.put, List.setIfInBounds_toArray, List.set_cons_zero, List.set_cons_succ, List.getElem_toArray, List.getElem_cons_zero, List.getElem_cons_succ]
  refine wpAnyH_take (i := 10) (v := ?_) rfl (by kernel_rfl) (by kernel_rfl) (by kernel_rfl) (fun _ _ _ h => h) (Or.inl ⟨by rfl, ?_⟩) (by assumption) ?_
  rotate_left
  · (intro w hSw; (try dsimp only at hSw); go_simp; try with_reducible rfl)
  try simp only [Act.put, List.setIfInBounds_toArray, List.set_cons_zero, List.set_cons_succ, List.getElem_toArray, List.getElem_cons_zero, List.getElem_cons_succ]
  refine wpAnyH_ready (rs := [9]) (by kernel_rfl) (by simp) ?_
  refine AllReadyH.cons rfl (fun K hK => ?_) ?_
  rotate_left
  · exact AllReadyH.nil
  go_simp
  (go_at_call 30; ((with_reducible refine (counts_is HPs.out.ar HZ.out.1 HZ.out.2.1 HZ.out.2.2.1 HZ.out.2.2.2.1 HZ.out.2.2.2.2).mono ?_); rintro e wc ⟨rfl, hb⟩; have HPc2 := Lib.hid (HPs.out.below hb); have HLc := Lib.hid (HLs.out.later hb); clear hb))
  go_wp2_with fail
  refine hK.out _ _ ?_ (fun hHeld => ?_)
  · (try dsimp only); first | (with_reducible assumption) | (with_reducible exact HPd.out.ks) | (with_reducible exact HPs.out.ks) | (with_reducible exact HPc2.out.ks) | (with_reducible exact HPa.out.ks)
  clear hK K
  try simp only [Act.put, List.setIfInBounds_toArray, List.set_cons_zero, List.set_cons_succ, List.getElem_toArray, List.getElem_cons_zero, List.getElem_cons_succ]
  refine wpAnyH_take (i := 11) (v := ?_) rfl (by kernel_rfl) (by kernel_rfl) (by kernel_rfl) (fun _ _ _ h => h) (Or.inl ⟨by rfl, ?_⟩) (by assumption) ?_
  rotate_left
  · (intro w hSw; (try dsimp only at hSw); go_simp; try with_reducible rfl)
  try simp only [Act.put, List.setIfInBounds_toArray, List.set_cons_zero, List.set_cons_succ, List.getElem_toArray, List.getElem_cons_zero, List.getElem_cons_succ]
  refine wpAnyH_take (i := 12) (v := ?_) rfl (by kernel_rfl) (by kernel_rfl) (by kernel_rfl) (fun _ _ _ h => h) (Or.inl ⟨by rfl, ?_⟩) (by assumption) ?_
  rotate_left
  · (intro w hSw; (try dsimp only at hSw); go_simp; try with_reducible rfl)
  try simp only [Act.put, List.setIfInBounds_toArray, List.set_cons_zero, List.set_cons_succ, List.getElem_toArray, List.getElem_cons_zero, List.getElem_cons_succ]
  refine wpAnyH_take (i := 13) (v := ?_) rfl (by kernel_rfl) (by kernel_rfl) (by kernel_rfl) (fun _ _ _ h => h) (Or.inl ⟨by rfl, ?_⟩) (by assumption) ?_
  rotate_left
  · (intro w hSw; (try dsimp only at hSw); go_simp; try with_reducible rfl)
  try simp only [Act.put, List.setIfInBounds_toArray, List.set_cons_zero, List.set_cons_succ, List.getElem_toArray, List.getElem_cons_zero, List.getElem_cons_succ]
  refine wpAnyH_take (i := 14) (v := ?_) rfl (by kernel_rfl) (by kernel_rfl) (by kernel_rfl) (fun _ _ _ h => h) (Or.inl ⟨by rfl, ?_⟩) (by assumption) ?_
  rotate_left
  · (intro w hSw; (try dsimp only at hSw); go_simp; try with_reducible rfl)
  try simp only [Act.put, List.setIfInBounds_toArray, List.set_cons_zero, List.set_cons_succ, List.getElem_toArray, List.getElem_cons_zero, List.getElem_cons_succ]
  refine wpAnyH_take (i := 15) (v := ?_) rfl (by kernel_rfl) (by kernel_rfl) (by kernel_rfl) (fun _ _ _ h => h) (Or.inl ⟨by rfl, ?_⟩) (by assumption) ?_
  rotate_left
  · (intro w hSw; (try dsimp only at hSw); go_simp; try with_reducible rfl)
  try simp only [Act.put, List.setIfInBounds_toArray, List.set_cons_zero, List.set_cons_succ, List.getElem_toArray, List.getElem_cons_zero, List.getElem_cons_succ]
  refine wpAnyH_take (i := 16) (v := ?_) rfl (by kernel_rfl) (by kernel_rfl) (by kernel_rfl) (fun _ _ _ h => h) (Or.inl ⟨by rfl, ?_⟩) (by assumption) ?_
  rotate_left
  · (intro w hSw; (try dsimp only at hSw); go_simp; try with_reducible rfl)
  try simp only [Act.put, List.setIfInBounds_toArray, List.set_cons_zero, List.set_cons_succ, List.getElem_toArray, List.getElem_cons_zero, List.getElem_cons_succ]
  refine wpAnyH_take (i := 17) (v := ?_) rfl (by kernel_rfl) (by kernel_rfl) (by kernel_rfl) (fun _ _ _ h => h) (Or.inl ⟨by rfl, ?_⟩) (by assumption) ?_
  rotate_left
  · (intro w hSw; (try dsimp only at hSw); go_simp; try with_reducible rfl)
  try simp only [Act.put, List.setIfInBounds_toArray, List.set_cons_zero, List.set_cons_succ, List.getElem_toArray, List.getElem_cons_zero, List.getElem_cons_succ]
  refine wpAnyH_take (i := 18) (v := ?_) rfl (by kernel_rfl) (by kernel_rfl) (by kernel_rfl) (fun _ _ _ h => h) (Or.inl ⟨by rfl, ?_⟩) (by assumption) ?_
  rotate_left
  · (intro w hSw; (try dsimp only at hSw); go_simp; try with_reducible rfl)
  try simp only [Act.put, List.setIfInBounds_toArray, List.set_cons_zero, List.set_cons_succ, List.getElem_toArray, List.getElem_cons_zero, List.getElem_cons_succ]
  refine wpAnyH_take (i := 19) (v := ?_) rfl (by kernel_rfl) (by kernel_rfl) (by kernel_rfl) (fun _ _ _ h => h) (Or.inl ⟨by rfl, ?_⟩) (by assumption) ?_
  rotate_left
  · (intro w hSw; (try dsimp only at hSw); go_simp; try with_reducible rfl)
  try simp only [Act.put, List.setIfInBounds_toArray, List.set_cons_zero, List.set_cons_succ, List.getElem_toArray, List.getElem_cons_zero, List.getElem_cons_succ]
  refine wpAnyH_take (i := 20) (v := ?_) rfl (by kernel_rfl) (by kernel_rfl) (by kernel_rfl) (fun _ _ _ h => h) (Or.inl ⟨by rfl, ?_⟩) (by assumption) ?_
  rotate_left
  · (intro w hSw; (try dsimp only at hSw); go_simp; try with_reducible rfl)
  try simp only [Act.put, List.setIfInBounds_toArray, List.set_cons_zero, List.set_cons_succ, List.getElem_toArray, List.getElem_cons_zero, List.getElem_cons_succ]
  refine wpAnyH_take (i := 21) rfl (by kernel_rfl) (by kernel_rfl) (by kernel_rfl) (fun _ _ _ h => h) (Or.inr ⟨by rfl, rfl⟩) (by assumption) ?_
  try simp only [Act.put, List.setIfInBounds_toArray, List.set_cons_zero, List.set_cons_succ, List.getElem_toArray, List.getElem_cons_zero, List.getElem_cons_succ]
  refine wpAnyH_take (i := 22) rfl (by kernel_rfl) (by kernel_rfl) (by kernel_rfl) (fun _ _ _ h => h) (Or.inr ⟨by rfl, rfl⟩) (by assumption) ?_
  try simp only [Act.put, List.setIfInBounds_toArray, List.set_cons_zero, List.set_cons_succ, List.getElem_toArray, List.getElem_cons_zero, List.getElem_cons_succ]
  refine wpAnyH_take (i := 23) rfl (by kernel_rfl) (by kernel_rfl) (by kernel_rfl) (fun _ _ _ h => h) (Or.inr ⟨by rfl, rfl⟩) (by assumption) ?_
  try simp only [Act.put, List.setIfInBounds_toArray, List.set_cons_zero, List.set_cons_succ, List.getElem_toArray, List.getElem_cons_zero, List.getElem_cons_succ]
  refine wpAnyH_take (i := 24) rfl (by kernel_rfl) (by kernel_rfl) (by kernel_rfl) (fun _ _ _ h => h) (Or.inr ⟨by rfl, rfl⟩) (by assumption) ?_
  try simp only [Act.put, List.setIfInBounds_toArray, List.set_cons_zero, List.set_cons_succ, List.getElem_toArray, List.getElem_cons_zero, List.getElem_cons_succ]
  refine wpAnyH_take (i := 25) rfl (by kernel_rfl) (by kernel_rfl) (by kernel_rfl) (fun _ _ _ h => h) (Or.inr ⟨by rfl, rfl⟩) (by assumption) ?_
  try simp only [Act.put, List.setIfInBounds_toArray, List.set_cons_zero, List.set_cons_succ, List.getElem_toArray, List.getElem_cons_zero, List.getElem_cons_succ]
  refine wpAnyH_take (i := 26) rfl (by kernel_rfl) (by kernel_rfl) (by kernel_rfl) (fun _ _ _ h => h) (Or.inr ⟨by rfl, rfl⟩) (by assumption) ?_
  try simp only [Act.put, List.setIfInBounds_toArray, List.set_cons_zero, List.set_cons_succ, List.getElem_toArray, List.getElem_cons_zero, List.getElem_cons_succ]
  refine wpAnyH_take (i := 27) (v := ?_) rfl (by kernel_rfl) (by kernel_rfl) (by kernel_rfl) (fun _ _ _ h => h) (Or.inl ⟨by rfl, ?_⟩) (by assumption) ?_
  rotate_left
  · (intro w hSw; (try dsimp only at hSw); go_simp; try with_reducible rfl)
  try simp only [Act.put, List.setIfInBounds_toArray, List.set_cons_zero, List.set_cons_succ, List.getElem_toArray, List.getElem_cons_zero, List.getElem_cons_succ]
  refine wpAnyH_take (i := 28) (v := ?_) rfl (by kernel_rfl) (by kernel_rfl) (by kernel_rfl) (fun _ _ _ h => h) (Or.inl ⟨by rfl, ?_⟩) (by assumption) ?_
  rotate_left
  · (intro w hSw; (try dsimp only at hSw); go_simp; try with_reducible rfl)
  try simp only [Act.put, List.setIfInBounds_toArray, List.set_cons_zero, List.set_cons_succ, List.getElem_toArray, List.getElem_cons_zero, List.getElem_cons_succ]
  refine wpAnyH_take (i := 29) (v := ?_) rfl (by kernel_rfl) (by kernel_rfl) (by kernel_rfl) (fun _ _ _ h => h) (Or.inl ⟨by rfl, ?_⟩) (by assumption) ?_
  rotate_left
  · (intro w hSw; (try dsimp only at hSw); go_simp; try with_reducible rfl)
  try simp only [Act.put, List.setIfInBounds_toArray, List.set_cons_zero, List.set_cons_succ, List.getElem_toArray, List.getElem_cons_zero, List.getElem_cons_succ]
  refine wpAnyH_ready (rs := [30]) (by kernel_rfl) (by simp) ?_
  refine AllReadyH.cons rfl (fun K hK => ?_) ?_
  rotate_left
  · exact AllReadyH.nil
  go_simp
  (go_at_call 7; ((with_reducible refine (awake_any _).mono ?_); rintro e wa ⟨rfl, hb⟩; have HPa := Lib.hid (HPc2.out.below hb); clear hb))
  go_wp2_with fail
  refine hK.out _ _ ?_ (fun hHeld => ?_)
  · (try dsimp only); first | (with_reducible assumption) | (with_reducible exact HPd.out.ks) | (with_reducible exact HPs.out.ks) | (with_reducible exact HPc2.out.ks) | (with_reducible exact HPa.out.ks)
  clear hK K
  try simp only [Act.put, List.setIfInBounds_toArray, List.set_cons_zero, List.set_cons_succ, List.getElem_toArray, List.getElem_cons_zero, List.getElem_cons_succ]
  refine wpAnyH_take (i := 31) (v := ?_) rfl (by kernel_rfl) (by kernel_rfl) (by kernel_rfl) (fun _ _ _ h => h) (Or.inl ⟨by rfl, ?_⟩) (by assumption) ?_
  rotate_left
  · (intro w hSw; (try dsimp only at hSw); go_simp; try with_reducible rfl)
  try simp only [Act.put, List.setIfInBounds_toArray, List.set_cons_zero, List.set_cons_succ, List.getElem_toArray, List.getElem_cons_zero, List.getElem_cons_succ]
  refine wpAnyH_take (i := 32) (v := ?_) rfl (by kernel_rfl) (by kernel_rfl) (by kernel_rfl) (fun _ _ _ h => h) (Or.inl ⟨by rfl, ?_⟩) (by assumption) ?_
  rotate_left
  · (intro w hSw; (try dsimp only at hSw); go_simp; try with_reducible rfl)
  try simp only [Act.put, List.setIfInBounds_toArray, List.set_cons_zero, List.set_cons_succ, List.getElem_toArray, List.getElem_cons_zero, List.getElem_cons_succ]
  refine wpAnyH_done (by kernel_rfl) ?_ _
  clear hvs
  go_wp2_with fail
  go_ret
  exact ⟨rfl, HB0.out.trans (HPa.out.be.mono HB0.out.size)⟩

theorem ptrLooks_any (v : Int) (hv0 : 0 ≤ v) (hv1 : v ≤ 18446744073709551615) (st : Int) (hs0 : 0 ≤ st) (hs1 : st ≤ 18446744073709551615) (tn : Int) (ht0 : 0 ≤ tn) (ht1 : tn ≤ 18446744073709551615) (w : World) :
    Calls Try.prog 4 #[.int .u64 v, .int .u64 st, .int .u64 tn] w fun e w' => e = .returned (.bool true) ∧ Below w.heap.size w w' := by
  obtain ⟨o, e1⟩ : ∃ o, v / 65536 % 65536 = o := ⟨_, rfl⟩
  obtain ⟨y, e2⟩ : ∃ o, v % 65536 = o := ⟨_, rfl⟩
  obtain ⟨th, e3⟩ : ∃ o, v / 4294967296 % 256 = o := ⟨_, rfl⟩
  obtain ⟨t0, e4⟩ : ∃ o, v / 1099511627776 = o := ⟨_, rfl⟩
  cases hr : rightV v
  · by_cases h0 : 0 < th
    · exact looks_no1 v st tn o y th t0 w hv0 hv1 hs0 hs1 e1 e2 e3 e4 hr h0
    · have h1 : th = 0 := by omega
      subst h1
      exact looks_no0 v st tn o y t0 w hv0 hv1 hs0 hs1 e1 e2 e3 e4 hr
  · by_cases h0 : 0 < th
    · exact looks_wd v st tn o y th t0 w hv0 hv1 hs0 hs1 ht0 ht1 e1 e2 e3 e4 hr h0
    · have h1 : th = 0 := by omega
      subst h1
      exact looks_pl v st tn o y t0 w hv0 hv1 hs0 hs1 e1 e2 e3 e4 hr
end Go.Proofs.Ytipjbgkfhkidkaa
