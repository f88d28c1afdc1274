/- The law's right and begun; a play made. -/
import Derived.Test.YtahabfjngeicmaaEkL
namespace Go.Proofs.Ytahabfjngeicmaa
open Go.RowKit

set_option maxRecDepth 100000

section
variable {w : World} {V S T : Int}
def rgt11 (V S T : Int) : Bool := rtB V S T && decide (V ≤ 8)
theorem rgt11_yes (h : rgt11 V S T = true) : Rt V S T ∧ V ≤ 8 := by
  unfold rgt11 at h
  simp only [Bool.and_eq_true, decide_eq_true_eq] at h
  exact ⟨rtB_yes h.1, h.2⟩
theorem right_any11 (V S T : Int) (w : World) :
    Calls Try.prog 21 #[vL V S T] w fun e w' => e = .returned (.bool (rgt11 V S T)) ∧ Below w.heap.size w w' := by
  have HB : Hid (Below w.heap.size w (w.alloc (.cells #[.int .i64 V, .int .i64 S, .int .i64 T] 23))) := Lib.hid ((Below.refl _ _).alloc (Nat.le_refl _) _)
  have HL : Hid (Blk (w.alloc (.cells #[.int .i64 V, .int .i64 S, .int .i64 T] 23)) w.heap.size 23 #[.int .i64 V, .int .i64 S, .int .i64 T]) := Lib.hid (Blk.new _ _ _)
  go_enter Try.func21, Try.ntmps21
  go_wp2_with fail
  generalize w.heap.size = lb at HL ⊢
  generalize w.alloc (.cells #[.int .i64 V, .int .i64 S, .int .i64 T] 23) = W1 at HL HB ⊢
  refine (rright_any V S T _).mono ?_; rintro e w2 ⟨rfl, hb2⟩
  have HB2 := Lib.hid (HB.out.trans (hb2.mono HB.out.size))
  have l0 : w2.cell? ⟨lb, 0, none⟩ = some (.int .i64 V) := (HL.out.below hb2 HL.out.lt).cell 0
  have llt := (HL.out.below hb2 HL.out.lt).lt
  clear HL HB hb2
  cases h1 : rtB V S T
  · go_wp2_with fail
    go_ret
    exact ⟨by unfold rgt11; rw [h1]; rfl, HB2.out⟩
  · go_wp2_with fail
    go_ret
    exact ⟨by unfold rgt11; rw [h1]; rfl, HB2.out⟩
/-- What begun's last region reads, and stores into. -/
def BS11 (W : World) (lb rb : Nat) (V S T : Int) : Prop := Blk W lb 23 #[.int .i64 V, .int .i64 S, .int .i64 T] ∧ ∃ x0 x1 x2 x3, Blk W rb 64 #[x0, x1, x2, x3]
theorem BS11.below {w w' : World} {lb rb : Nat} (h : BS11 w lb rb V S T) (hb : Below w.heap.size w w') : BS11 w' lb rb V S T := by
  obtain ⟨h1, x0, x1, x2, x3, h2⟩ := h
  exact ⟨h1.below hb h1.lt, x0, x1, x2, x3, h2.below hb h2.lt⟩
theorem BS11.set {w : World} {lb rb : Nat} (h : BS11 w lb rb V S T) (y0 y1 y2 y3 : Value) : BS11 ((((w.setCell ⟨rb, 0, none⟩ y0).setCell ⟨rb, 1, none⟩ y1).setCell ⟨rb, 2, none⟩ y2).setCell ⟨rb, 3, none⟩ y3) lb rb V S T := by
  obtain ⟨h1, x0, x1, x2, x3, h2⟩ := h
  have hn := Blk.ne_ h1 h2 (by decide)
  exact ⟨Blk.far (Blk.far (Blk.far (Blk.far h1 hn _) hn _) hn _) hn _, _, _, _, _, h2.four y0 y1 y2 y3⟩
theorem BS11.lt {w : World} {lb rb : Nat} (h : BS11 w lb rb V S T) : lb < w.heap.size ∧ rb < w.heap.size := by
  obtain ⟨h1, x0, x1, x2, x3, h2⟩ := h
  exact ⟨h1.lt, h2.lt⟩
theorem BS11.rule (lb rb : Nat) (V S T : Int) : ∀ W : World, BS11 W lb rb V S T → (W.cell? ⟨lb, 0, none⟩ = some (.int .i64 V) ∧ W.cell? ⟨lb, 1, none⟩ = some (.int .i64 S) ∧ W.cell? ⟨lb, 2, none⟩ = some (.int .i64 T)) ∧
    (W.cell? ⟨rb, 0, none⟩ = some (zAt W rb 0) ∧ W.cell? ⟨rb, 1, none⟩ = some (zAt W rb 1) ∧ W.cell? ⟨rb, 2, none⟩ = some (zAt W rb 2) ∧ W.cell? ⟨rb, 3, none⟩ = some (zAt W rb 3)) ∧
    (W.frozen? ⟨rb, 0, none⟩ = false ∧ W.frozen? ⟨rb, 1, none⟩ = false ∧ W.frozen? ⟨rb, 2, none⟩ = false ∧ W.frozen? ⟨rb, 3, none⟩ = false) := by
  rintro W ⟨h1, x0, x1, x2, x3, h2⟩
  have z : ∀ i v, #[x0, x1, x2, x3][i]? = some v → W.cell? ⟨rb, i, none⟩ = some (zAt W rb i) := fun i v hv => by
    have := (h2.cell i).trans hv
    unfold zAt; rw [this]; rfl
  exact ⟨⟨h1.cell 0, h1.cell 1, h1.cell 2⟩, ⟨z 0 x0 rfl, z 1 x1 rfl, z 2 x2 rfl, z 3 x3 rfl⟩, h2.frozen 0, h2.frozen 1, h2.frozen 2, h2.frozen 3⟩
set_option maxHeartbeats 2000000 in
theorem begun_any11 (hR : Rt V S T) :
    Calls Try.prog 23 #[vL V S T] w fun e w' => ∃ p gb, e = .returned (.tuple #[vE V S T p, .bool true]) ∧ EM w' V S T p gb (cellsE V S T) 0 zeroF ∧ Below w.heap.size w w' ∧ w.heap.size ≤ p ∧ w.heap.size ≤ gb := by
  have HR := Lib.hid hR
  have HC := Lib.hid (cellsE_int hR)
  have HLE := Lib.hid (cellsE_le hR)
  clear hR
  have HB : Hid (Below w.heap.size w ((w.alloc (.cells #[.int .i64 V, .int .i64 S, .int .i64 T] 23)).alloc (.cells #[.int .i64 0, .int .i64 0, .int .i64 0, .nilIface] 64))) := Lib.hid (((Below.refl _ _).alloc (Nat.le_refl _) _).alloc (by simp) _)
  go_enter Try.func23, Try.ntmps23
  go_wp2_with fail
  have HS : Hid (BS11 ((w.alloc (.cells #[.int .i64 V, .int .i64 S, .int .i64 T] 23)).alloc (.cells #[.int .i64 0, .int .i64 0, .int .i64 0, .nilIface] 64)) w.heap.size (w.heap.size + 1) V S T) := Lib.hid ⟨(Blk.new _ _ _).alloc _, _, _, _, _, new_next _ _ _ _ _⟩
  have HRB : Hid (w.heap.size ≤ w.heap.size + 1) := Lib.hid (Nat.le_succ _)
  generalize (w.alloc (.cells #[.int .i64 V, .int .i64 S, .int .i64 T] 23)).alloc (.cells #[.int .i64 0, .int .i64 0, .int .i64 0, .nilIface] 64) = W1 at HB HS ⊢
  generalize w.heap.size + 1 = rb at HS HRB ⊢
  generalize hlb : w.heap.size = lb at HS ⊢
  clear hlb
  refine (cells_yes V S T HR.out _).mono ?_; rintro e w2 ⟨rfl, hb2⟩
  have HB2 := Lib.hid (HB.out.trans (hb2.mono HB.out.size))
  have HS2 := Lib.hid (HS.out.below hb2)
  clear HB HS hb2
  rw [← HC.out]
  go_wp2_with fail
  refine (new_yes (cellsE V S T) _ HLE.out).mono ?_; rintro e w3 ⟨rfl, hA, hb3⟩
  have HE3 : Hid (EM w3 V S T (w2.heap.size + 1) w2.heap.size (cellsE V S T) 0 zeroF) := Lib.hid ⟨HR.out, zeroF, hA, fun j => ⟨Int.le_refl _, Int.le_refl _⟩⟩
  have HP : Hid (w.heap.size ≤ w2.heap.size + 1 ∧ w.heap.size ≤ w2.heap.size) := Lib.hid ⟨Nat.le_succ_of_le HB2.out.size, HB2.out.size⟩
  have HB3 := Lib.hid (HB2.out.trans (hb3.mono HB2.out.size))
  have HS3 := Lib.hid (HS2.out.below hb3)
  clear hA hb3 HB2 HS2
  generalize w2.heap.size + 1 = p at HE3 HP ⊢
  generalize w2.heap.size = gb at HE3 HP
  have b0 : ((0 : Int) != 0) = false := rfl
  obtain ⟨⟨l0, l1, l2⟩, ⟨d0, d1, d2, d3⟩, d4, d5, d6, d7⟩ := BS11.rule _ _ _ _ _ _ HS3.out
  obtain ⟨llt, rlt⟩ := HS3.out.lt
  go_wp2_with fail
  clear l0 l1 l2 d0 d1 d2 d3 d4 d5 d6 d7 llt rlt
  have HSd : Hid (BS11 w3.drew lb rb V S T) := Lib.hid (HS3.out.below (Below.refl _ _).drew)
  obtain ⟨⟨l0, l1, l2⟩, ⟨d0, d1, d2, d3⟩, d4, d5, d6, d7⟩ := BS11.rule _ _ _ _ _ _ HSd.out
  obtain ⟨llt, rlt⟩ := HSd.out.lt
  have hrule := BS11.rule lb rb V S T
  go_region_held3 (fun W => BS11 W lb rb V S T) (first | (with_reducible assumption) | (with_reducible exact BS11.set HS4.out _ _ _ _) | (with_reducible exact HS4.out) | (with_reducible exact HSd.out))
    (first
      | (go_at_call 37; ((with_reducible refine (pm_of p _).mono ?_); rintro e w4 ⟨rfl, hb4⟩; have HS4 := Lib.hid (HSd.out.below hb4); have HE4 := Lib.hid (HE3.out.drew.below hb4); have HB4 := Lib.hid (HB3.out.drew.trans (hb4.mono HB3.out.size))))
      | fail)
  clear l0 l1 l2 d0 d1 d2 d3 d4 d5 d6 d7 llt rlt
  clear hrule hb4 HSd HS3
  obtain ⟨h1, x0, x1, x2, x3, hblk⟩ := HS4.out
  have hf := hblk.four (.int .i64 V) (.int .i64 S) (.int .i64 T) (.iface 95 (pmV p))
  have d0 := hf.cell 0
  have d1 := hf.cell 1
  have d2 := hf.cell 2
  have d3 := hf.cell 3
  have HE5 := Lib.hid ((((HE4.out.far hblk (by decide) (by decide) (j := 0) (.int .i64 V)).far (hblk.set_ 0 _) (by decide) (by decide) (j := 1) (.int .i64 S)).far ((hblk.set_ 0 _).set_ 1 _) (by decide) (by decide) (j := 2) (.int .i64 T)).far (((hblk.set_ 0 _).set_ 1 _).set_ 2 _) (by decide) (by decide) (j := 3) (.iface 95 (pmV p)))
  have HB5 := Lib.hid ((((HB4.out.setCell (p := ⟨rb, 0, none⟩) HRB.out (.int .i64 V)).setCell (p := ⟨rb, 1, none⟩) HRB.out (.int .i64 S)).setCell (p := ⟨rb, 2, none⟩) HRB.out (.int .i64 T)).setCell (p := ⟨rb, 3, none⟩) HRB.out (.iface 95 (pmV p)))
  clear h1 hblk hf
  go_wp2_with fail
  exact bodyPost_ret (v := .tuple #[vE V S T p, .bool true]) (by simp [results, Try.results23, go_sem, d0, d1, d2, d3]) rfl ⟨p, gb, rfl, HE5.out, HB5.out, HP.out.1, HP.out.2⟩
end
end Go.Proofs.Ytahabfjngeicmaa
