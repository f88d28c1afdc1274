/- The law's fixed answer: its calls. -/
import Derived.Test.YtahabfjngeicmaaZTouV
import Derived.Test.YtahabfjngeicmaaZTouW
import Derived.Test.YtahabfjngeicmaaZTouZ
namespace Go.Proofs.Ytahabfjngeicmaa
open Go.RowKit

section
variable {w w' : World} {p gb cap m m' : Nat} {g : Mg9} {ts : List Tp} {t s ti tu ct dt : Tp}
theorem R211 : Rt 2 1 1 := ⟨by omega, by omega, by omega, by omega, by omega, by omega⟩
theorem n8 : nN 2 1 = 8 := by decide
theorem X00 : Xn 2 0 0 = 1 := by decide
theorem X01 : Xn 2 0 1 = 2 := by decide
theorem A00 : An 2 1 0 0 0 = 5 := by decide
theorem A01 : An 2 1 0 0 1 = 6 := by decide
theorem L0 : ((0 : Nat) : Int) < lv 2 := by decide
theorem Rd.more {V S T : Int} {r : Value} {e : Ending} (h : Rd V S T p gb cap m g ts r w e w') (hm : m ≤ m') : Rd V S T p gb cap m' g ts r w e w' := ⟨h.1, h.2.1.more hm, h.2.2⟩
theorem aw_link (A : FM w 2 1 1 p gb cap m g ts) (hL : Lv 2 1 0 ts (rows0 2 0 2) (gr0 1)) (hm : m ≤ 2000) :
    Calls Try.prog 17 #[vTr 2 1 1 p, .int .i64 0, .int .i64 0, .int .i64 0, .int .i64 1] w fun e w' => ∃ g' ts' t', e = .returned (.int .i64 (t'.root : Int)) ∧ FM w' 2 1 1 p gb cap 5000 g' ts' ∧ t' ∈ ts' ∧ t'.row = [1, 5, 2, 6] ∧ Only p gb w w' := by
  obtain ⟨t, t2, c0, c1, hP⟩ := Four.of (i := 0) (k := 1) (u := 0) (v := 1) (s := 0) (a1 := []) (a2 := []) (b1 := []) (b2 := []) hL R211 L0 A.fi (by decide) rfl rfl rfl (by decide)
  have h := tlink (L := 0) (u := 0) (v := 1) (a := 0) A L0 (by decide) (by decide) (by decide) hP (by omega)
  refine Calls.mono (show Calls Try.prog 17 #[vTr 2 1 1 p, .int .i64 0, .int .i64 0, .int .i64 0, .int .i64 1] w _ from h) ?_
  rintro e w' ⟨g', ts', t', rfl, A', M, R, _, O⟩
  exact ⟨g', ts', t', rfl, A'.more (by rw [n8]; omega), M, by rw [R, X00, X01, A00, A01]; rfl, O⟩
section
variable (A : FM w 2 1 1 p gb cap m g ts) (ht : t ∈ ts) (hr : t.row = [1, 5, 2, 6]) (hm : m ≤ 20000)
include A ht hr hm
theorem aw_same : Calls Try.prog 13 #[vTr 2 1 1 p, .int .i64 0, .int .i64 0, .int .i64 1] w (Rd 2 1 1 p gb cap (m + 1000) g ts (.bool true) w) := by
  have h := tsame (L := 0) (u := 0) (v := 1) A L0 (by decide) (by decide) ht (by rw [hr, X00]; simp) ht (by rw [hr, X01]; simp) (by omega)
  rw [decide_eq_true rfl] at h
  exact Calls.mono (show Calls Try.prog 13 #[vTr 2 1 1 p, .int .i64 0, .int .i64 0, .int .i64 1] w _ from h) fun e w' k => k.more (by rw [n8]; omega)
theorem aw_count : Calls Try.prog 33 #[vTr 2 1 1 p, .int .i64 0, .int .i64 1] w (Rd 2 1 1 p gb cap (m + 1000) g ts (.int .i64 2) w) := by
  have h := tcount (L := 0) (u := 1) A L0 (by decide) ht (by rw [hr, X01]; simp) (by omega)
  rw [hr, show cntV (vxN 2) [1, 5, 2, 6] = 2 by decide] at h
  exact Calls.mono (show Calls Try.prog 33 #[vTr 2 1 1 p, .int .i64 0, .int .i64 1] w _ from h) fun e w' k => k.more (by rw [n8]; omega)
theorem aw_list : Calls Try.prog 15 #[vTr 2 1 1 p, .int .i64 (t.root : Int)] w fun e w' => ∃ v, e = .returned v ∧ LI w' v [1, 5, 2, 6] ∧ FM w' 2 1 1 p gb cap (m + 1000) g ts ∧ Only p gb w w' := by
  refine (hlist A ht (by omega) rfl).mono ?_
  rintro e w' ⟨v, rfl, h1, _, A', O⟩
  exact ⟨v, rfl, hr ▸ h1, A'.more (by rw [n8]; omega), O⟩
theorem aw_linked : Calls Try.prog 34 #[vTr 2 1 1 p, .int .i64 0, .int .i64 0] w (Rd 2 1 1 p gb cap (m + 1000) g ts (.bool true) w) := by
  have h := tlinked_yes (L := 0) (a := 0) A L0 (by decide) ht (by rw [hr, A00]; simp) (by rw [hr, A01]; simp) (by omega)
  exact Calls.mono (show Calls Try.prog 34 #[vTr 2 1 1 p, .int .i64 0, .int .i64 0] w _ from h) fun e w' k => k.more (by rw [n8]; omega)
theorem aw_cut : Calls Try.prog 18 #[vTr 2 1 1 p, .int .i64 0, .int .i64 0] w fun e w' => ∃ g' ts' ti tu ct dt, e = .returned (.tuple #[.int .i64 ((ti.root : Nat) : Int), .int .i64 ((tu.root : Nat) : Int)]) ∧ FM w' 2 1 1 p gb cap (m + 2000) g' ts' ∧ (ti ∈ ts' ∧ ti.row = [2]) ∧ (tu ∈ ts' ∧ tu.row = [1]) ∧ (ct ∈ ts' ∧ ct.row = [5]) ∧ (dt ∈ ts' ∧ dt.row = [6]) ∧ Only p gb w w' := by
  have hP : Parts t (An 2 1 0 0 0) (An 2 1 0 0 1) [1] [2] [] := ⟨by rw [hr, A00, A01]; rfl, by rw [hr]; decide, by simp, by simp⟩
  have h := tcut01 (L := 0) (a := 0) A L0 (by decide) ht hP (by omega)
  refine Calls.mono (show Calls Try.prog 18 #[vTr 2 1 1 p, .int .i64 0, .int .i64 0] w _ from h) ?_
  rintro e w' ⟨g1, ts1, ti, tu, ct, dt, rfl, A1, M1, M2, R1, R2, M3, R3, M4, R4, _, O⟩
  exact ⟨g1, ts1, ti, tu, ct, dt, rfl, A1.more (by rw [n8]; omega), ⟨M1, R1⟩, ⟨M2, R2⟩, ⟨M3, by rw [R3, A00]⟩, ⟨M4, by rw [R4, A01]⟩, O⟩
end
section
variable (A : FM w 2 1 1 p gb cap m g ts) (hi : ti ∈ ts ∧ ti.row = [2]) (hu : tu ∈ ts ∧ tu.row = [1]) (hc : ct ∈ ts ∧ ct.row = [5]) (hd : dt ∈ ts ∧ dt.row = [6]) (hm : m ≤ 20000)
include A hm
include hi hu in
theorem aw_same2 : Calls Try.prog 13 #[vTr 2 1 1 p, .int .i64 0, .int .i64 0, .int .i64 1] w (Rd 2 1 1 p gb cap (m + 1000) g ts (.bool false) w) := by
  have h := tsame (L := 0) (u := 0) (v := 1) A L0 (by decide) (by decide) hu.1 (by rw [hu.2, X00]; simp) hi.1 (by rw [hi.2, X01]; simp) (by omega)
  rw [root_dec A.fi hu.1 hi.1 (fun e => by have := hu.2; rw [e, hi.2] at this; simp at this)] at h
  exact Calls.mono (show Calls Try.prog 13 #[vTr 2 1 1 p, .int .i64 0, .int .i64 0, .int .i64 1] w _ from h) fun e w' k => k.more (by rw [n8]; omega)
include hc hd in
theorem aw_linked2 : Calls Try.prog 34 #[vTr 2 1 1 p, .int .i64 0, .int .i64 0] w (Rd 2 1 1 p gb cap (m + 1000) g ts (.bool false) w) := by
  have h := tlinked (L := 0) (a := 0) A L0 (by decide) hc.1 (by rw [hc.2, A00]; simp) hd.1 (by rw [hd.2, A01]; simp) (by omega)
  rw [root_dec A.fi hc.1 hd.1 (fun e => by have := hc.2; rw [e, hd.2] at this; simp at this)] at h
  exact Calls.mono (show Calls Try.prog 34 #[vTr 2 1 1 p, .int .i64 0, .int .i64 0] w _ from h) fun e w' k => k.more (by rw [n8]; omega)
include hu in
theorem aw_count2 : Calls Try.prog 33 #[vTr 2 1 1 p, .int .i64 0, .int .i64 0] w (Rd 2 1 1 p gb cap (m + 1000) g ts (.int .i64 1) w) := by
  have h := tcount (L := 0) (u := 0) A L0 (by decide) hu.1 (by rw [hu.2, X00]; simp) (by omega)
  rw [hu.2, show cntV (vxN 2) [1] = 1 by decide] at h
  exact Calls.mono (show Calls Try.prog 33 #[vTr 2 1 1 p, .int .i64 0, .int .i64 0] w _ from h) fun e w' k => k.more (by rw [n8]; omega)
end

/-- A play in the law's memory. -/
structure AX (w0 W : World) (V S T : Int) (n q p gb cap rb lb cr cl base : Nat) (gB : Nat → Nat) (m : Nat) (g : Mg9) (ts : List Tp) (vr : Nat → Value) (rs : Nat → List (List Nat)) (gr : Nat → List (Option (Nat × Nat))) : Prop where
  pg : PG W V S T n q p gb cap rb lb cr cl base gB m g ts vr rs gr
  be : Below w0.heap.size w0 W
  bb : w0.heap.size ≤ base
variable {W w0 : World} {V S T : Int} {n q rb lb cr cl base : Nat} {gB : Nat → Nat} {g' : Mg9} {ts' : List Tp} {vr : Nat → Value} {rs : Nat → List (List Nat)} {gr : Nat → List (Option (Nat × Nat))}
theorem AX.tree (h : AX w0 w V S T n q p gb cap rb lb cr cl base gB m g ts vr rs gr) (hf : FM w' V S T p gb cap m' g' ts') (ho : Only p gb w w') : AX w0 w' V S T n q p gb cap rb lb cr cl base gB m' g' ts' vr rs gr :=
  ⟨h.pg.tree hf ho, Only.below h.be ho h.be.size (Nat.le_trans h.bb h.pg.bp) (Nat.le_trans h.bb h.pg.bg), h.bb⟩
theorem AX.below (h : AX w0 w V S T n q p gb cap rb lb cr cl base gB m g ts vr rs gr) (hb : Below w.heap.size w w') : AX w0 w' V S T n q p gb cap rb lb cr cl base gB m g ts vr rs gr := ⟨h.pg.below hb, h.be.trans (hb.mono h.be.size), h.bb⟩
theorem AX.drew (h : AX w0 w V S T n q p gb cap rb lb cr cl base gB m g ts vr rs gr) : AX w0 w.drew V S T n q p gb cap rb lb cr cl base gB m g ts vr rs gr := h.below (Below.refl _ _).drew
/-- A play's variable. -/
def PQ (W : World) (q p rb lb n cr cl : Nat) (V S T : Int) : Prop := Blk W q 50 #[.int .i64 V, .int .i64 S, .int .i64 T, .int .i64 V, .int .i64 S, .int .i64 T, .iface 95 (pmV p), .int .i64 1, .int .i64 0, .slice (some ⟨rb, 0, none⟩) n cr, .slice (some ⟨lb, 0, none⟩) n cl]
theorem PQ.rule (q p rb lb n cr cl : Nat) (V S T : Int) : ∀ W : World, PQ W q p rb lb n cr cl V S T →
    W.cell? ⟨q, 0, none⟩ = some (.int .i64 V) ∧ W.cell? ⟨q, 1, none⟩ = some (.int .i64 S) ∧ W.cell? ⟨q, 2, none⟩ = some (.int .i64 T) ∧ W.cell? ⟨q, 3, none⟩ = some (.int .i64 V) ∧ W.cell? ⟨q, 4, none⟩ = some (.int .i64 S) ∧ W.cell? ⟨q, 5, none⟩ = some (.int .i64 T) ∧ W.cell? ⟨q, 6, none⟩ = some (.iface 95 (pmV p)) ∧ W.cell? ⟨q, 7, none⟩ = some (.int .i64 1) ∧ W.cell? ⟨q, 8, none⟩ = some (.int .i64 0) ∧ W.cell? ⟨q, 9, none⟩ = some (.slice (some ⟨rb, 0, none⟩) n cr) ∧ W.cell? ⟨q, 10, none⟩ = some (.slice (some ⟨lb, 0, none⟩) n cl) := fun _ h =>
  ⟨Blk.cell h 0, Blk.cell h 1, Blk.cell h 2, Blk.cell h 3, Blk.cell h 4, Blk.cell h 5, Blk.cell h 6, Blk.cell h 7, Blk.cell h 8, Blk.cell h 9, Blk.cell h 10⟩
theorem AX.pq (h : AX w0 w V S T n q p gb cap rb lb cr cl base gB m g ts vr rs gr) : PQ w q p rb lb n cr cl V S T := h.pg.blk
end

end Go.Proofs.Ytahabfjngeicmaa
