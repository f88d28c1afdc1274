/- PtrSeen's closure: what a call makes of the pens. Printed by wip/tools/ptrm.py. -/
import Derived.Test.YtipjbgkfhkidkaaPtrL
namespace Go.Proofs.Ytipjbgkfhkidkaa
open Go.RowKit

set_option maxRecDepth 100000

/-- The memory and the lay, in variables of their own. -/
abbrev LM (p mb lb : Nat) : List (Nat × TypeId × Array Value) := [(lb, 31, #[.int .i64 2, .int .i64 0, .int .i64 8]), (mb, 28, #[.pointer (some ⟨p, 0, none⟩)])]
/-- A call and a pen besides. -/
abbrev LD (p mb lb ob pb : Nat) (k pe i X th tg : Int) : List (Nat × TypeId × Array Value) := (pb, 41, #[.int .i64 th, .int .i64 tg]) :: (ob, 48, #[.int .i64 k, .int .i64 pe, .int .i64 i, .int .i64 X]) :: LM p mb lb

section
variable {w0 w W W' : World} {p g m mb lb ob pb tb sb wb q j : Nat} {x x' y y' : Sx} {k pe i X th tg : Int} {L : List (Nat × TypeId × Array Value)}
theorem SM.vars (h : SM w0 p g m L tb sb wb x y w) : SM w0 p g m ((w.heap.size + 1, 41, #[.int .i64 th, .int .i64 tg]) :: (w.heap.size, 48, #[.int .i64 k, .int .i64 pe, .int .i64 i, .int .i64 X]) :: L) tb sb wb x y ((w.alloc (.cells #[.int .i64 k, .int .i64 pe, .int .i64 i, .int .i64 X] 48)).alloc (.cells #[.int .i64 th, .int .i64 tg] 41)) := by
  have := (h.var (ty := 48) (cs := #[.int .i64 k, .int .i64 pe, .int .i64 i, .int .i64 X]) (by decide) (by decide) (by decide) (by decide) (by decide) (by decide)).var (ty := 41) (cs := #[.int .i64 th, .int .i64 tg]) (by decide) (by decide) (by decide) (by decide) (by decide) (by decide)
  simpa using this
theorem kd_cells (h : KeptL (LD p mb lb ob pb k pe i X th tg) W) : W.cell? ⟨pb, 0, none⟩ = some (.int .i64 th) ∧ W.cell? ⟨pb, 1, none⟩ = some (.int .i64 tg) ∧ W.cell? ⟨ob, 0, none⟩ = some (.int .i64 k) ∧ W.cell? ⟨ob, 1, none⟩ = some (.int .i64 pe) ∧ W.cell? ⟨ob, 2, none⟩ = some (.int .i64 i) ∧ W.cell? ⟨ob, 3, none⟩ = some (.int .i64 X) ∧
    W.cell? ⟨lb, 0, none⟩ = some (.int .i64 2) ∧ W.cell? ⟨lb, 1, none⟩ = some (.int .i64 0) ∧ W.cell? ⟨lb, 2, none⟩ = some (.int .i64 8) ∧ W.cell? ⟨mb, 0, none⟩ = some (.pointer (some ⟨p, 0, none⟩)) :=
  ⟨h.1.b.cell 0, h.1.b.cell 1, h.2.1.b.cell 0, h.2.1.b.cell 1, h.2.1.b.cell 2, h.2.1.b.cell 3, h.2.2.1.b.cell 0, h.2.2.1.b.cell 1, h.2.2.1.b.cell 2, h.2.2.2.1.b.cell 0⟩
theorem kd_lts (h : KeptL (LD p mb lb ob pb k pe i X th tg) W) : pb < W.heap.size ∧ ob < W.heap.size ∧ lb < W.heap.size ∧ mb < W.heap.size := ⟨h.1.b.lt, h.2.1.b.lt, h.2.2.1.b.lt, h.2.2.2.1.b.lt⟩
theorem OnlyF.arena {F : Nat → Prop} (h : OnlyF F w W) (ho : Only p g W W') (hp : F p) (hg : F g) : OnlyF F w W' := h.only ho hp hg
theorem MA.clean_no (h : MA W p g m x) (hw : x.wr j = false) : MA W p g m (x.clean j) := by
  obtain ⟨c, f, A, C, R⟩ := h
  exact ⟨c, f, A, C, R.clean_no hw⟩
end
/-- What cleaning has done of a pen's two cells. -/
def clN (x : Sx) (q : Nat) : Nat → Sx
  | 0 => x
  | 1 => x.clean (2 * q)
  | _ => (x.clean (2 * q)).clean (2 * q + 1)
theorem clN_step (x : Sx) (q : Nat) {j : Nat} (hj : j < 2) : (clN x q j).clean (2 * q + j) = clN x q (j + 1) := by
  have : j = 0 ∨ j = 1 := by omega
  rcases this with rfl | rfl <;> rfl
theorem clN_g (x : Sx) (q j : Nat) : (clN x q j).g = x.g ∧ (clN x q j).s = x.s := by
  match j with
  | 0 => exact ⟨rfl, rfl⟩
  | 1 => exact ⟨rfl, rfl⟩
  | _ + 2 => exact ⟨rfl, rfl⟩

set_option maxHeartbeats 1000000 in
theorem do_n1 {w0 w : World} {p g m mb lb tb sb wb : Nat} {x : Sx} {pe i X : Int} (h : SM w0 p g m (LM p mb lb) tb sb wb x x w) (hX : i64B X) (hs : x.s (lowB pe) = true) :
    Calls Try.prog 34 #[.agg #[.int .i64 1, .int .i64 pe, .int .i64 i, .int .i64 X], .pointer (some ⟨tb, 0, none⟩), .pointer (some ⟨sb, 0, none⟩), .pointer (some ⟨mb, 0, none⟩), .pointer (some ⟨wb, 0, none⟩), .pointer (some ⟨lb, 0, none⟩)] w (Done4 w0 p g m (LM p mb lb) tb sb wb x w) := by
  have x1 := hX.1
  have x2 := hX.2
  have hand := lowB_and pe
  have hq := lowB_lt pe
  have hiand := lowB_and i
  have hbl := lowB_lt i
  clear hX
  generalize lowB pe = q at *
  generalize lowB i = bt at *
  have hq0 : (0 : Int) ≤ (q : Int) := Int.natCast_nonneg _
  have hq1 : (q : Int) < 2 := by omega
  have hb0 : (0 : Int) ≤ (bt : Int) := Int.natCast_nonneg _
  have hb1 : (bt : Int) < 2 := by omega
  obtain ⟨t0, s0, ft, fs, tl, sl, wl⟩ := h.cells hq
  have ml := h.ks.k.2.1.b.lt
  have ll := h.ks.k.1.b.lt
  have m0 := h.ks.k.2.1.cells1.1
  obtain ⟨y0, y1, y2, _⟩ := h.ks.k.1.cells3
  have HS0 := Lib.hid (h.vars (k := 1) (pe := pe) (i := i) (X := X) (th := (q : Int) + 1) (tg := (x.g q : Int)))
  have HF0 : Hid (OnlyF (SF p g tb sb wb) w ((w.alloc (.cells #[.int .i64 1, .int .i64 pe, .int .i64 i, .int .i64 X] 48)).alloc (.cells #[.int .i64 ((q : Int) + 1), .int .i64 (x.g q : Int)] 41))) := Lib.hid (((OnlyF.refl w).alloc _).alloc _)
  clear h
  go_enter Try.func34, Try.ntmps34
  go_wp2_with fail
  go_end0
  exact ⟨rfl, HS0.out.tl.tl.more (by omega), HF0.out⟩

set_option maxHeartbeats 1000000 in
theorem do_n2 {w0 w : World} {p g m mb lb tb sb wb : Nat} {x : Sx} {pe i X : Int} (h : SM w0 p g m (LM p mb lb) tb sb wb x x w) (hX : i64B X) (hs : x.s (lowB pe) = false) (h0 : X < 0) :
    Calls Try.prog 34 #[.agg #[.int .i64 1, .int .i64 pe, .int .i64 i, .int .i64 X], .pointer (some ⟨tb, 0, none⟩), .pointer (some ⟨sb, 0, none⟩), .pointer (some ⟨mb, 0, none⟩), .pointer (some ⟨wb, 0, none⟩), .pointer (some ⟨lb, 0, none⟩)] w (Done4 w0 p g m (LM p mb lb) tb sb wb x w) := by
  have x1 := hX.1
  have x2 := hX.2
  have hand := lowB_and pe
  have hq := lowB_lt pe
  have hiand := lowB_and i
  have hbl := lowB_lt i
  clear hX
  generalize lowB pe = q at *
  generalize lowB i = bt at *
  have hq0 : (0 : Int) ≤ (q : Int) := Int.natCast_nonneg _
  have hq1 : (q : Int) < 2 := by omega
  have hb0 : (0 : Int) ≤ (bt : Int) := Int.natCast_nonneg _
  have hb1 : (bt : Int) < 2 := by omega
  obtain ⟨t0, s0, ft, fs, tl, sl, wl⟩ := h.cells hq
  have ml := h.ks.k.2.1.b.lt
  have ll := h.ks.k.1.b.lt
  have m0 := h.ks.k.2.1.cells1.1
  obtain ⟨y0, y1, y2, _⟩ := h.ks.k.1.cells3
  have HS0 := Lib.hid (h.vars (k := 1) (pe := pe) (i := i) (X := X) (th := (q : Int) + 1) (tg := (x.g q : Int)))
  have HF0 : Hid (OnlyF (SF p g tb sb wb) w ((w.alloc (.cells #[.int .i64 1, .int .i64 pe, .int .i64 i, .int .i64 X] 48)).alloc (.cells #[.int .i64 ((q : Int) + 1), .int .i64 (x.g q : Int)] 41))) := Lib.hid (((OnlyF.refl w).alloc _).alloc _)
  clear h
  go_enter Try.func34, Try.ntmps34
  go_wp2_with fail
  go_end0
  exact ⟨rfl, HS0.out.tl.tl.more (by omega), HF0.out⟩

set_option maxHeartbeats 1000000 in
theorem do_n3 {w0 w : World} {p g m mb lb tb sb wb : Nat} {x : Sx} {pe i X : Int} (h : SM w0 p g m (LM p mb lb) tb sb wb x x w) (hX : i64B X) (hs : x.s (lowB pe) = false) (h0 : 0 ≤ X) (h1 : 65535 < X) :
    Calls Try.prog 34 #[.agg #[.int .i64 1, .int .i64 pe, .int .i64 i, .int .i64 X], .pointer (some ⟨tb, 0, none⟩), .pointer (some ⟨sb, 0, none⟩), .pointer (some ⟨mb, 0, none⟩), .pointer (some ⟨wb, 0, none⟩), .pointer (some ⟨lb, 0, none⟩)] w (Done4 w0 p g m (LM p mb lb) tb sb wb x w) := by
  have x1 := hX.1
  have x2 := hX.2
  have hand := lowB_and pe
  have hq := lowB_lt pe
  have hiand := lowB_and i
  have hbl := lowB_lt i
  clear hX
  generalize lowB pe = q at *
  generalize lowB i = bt at *
  have hq0 : (0 : Int) ≤ (q : Int) := Int.natCast_nonneg _
  have hq1 : (q : Int) < 2 := by omega
  have hb0 : (0 : Int) ≤ (bt : Int) := Int.natCast_nonneg _
  have hb1 : (bt : Int) < 2 := by omega
  obtain ⟨t0, s0, ft, fs, tl, sl, wl⟩ := h.cells hq
  have ml := h.ks.k.2.1.b.lt
  have ll := h.ks.k.1.b.lt
  have m0 := h.ks.k.2.1.cells1.1
  obtain ⟨y0, y1, y2, _⟩ := h.ks.k.1.cells3
  have HS0 := Lib.hid (h.vars (k := 1) (pe := pe) (i := i) (X := X) (th := (q : Int) + 1) (tg := (x.g q : Int)))
  have HF0 : Hid (OnlyF (SF p g tb sb wb) w ((w.alloc (.cells #[.int .i64 1, .int .i64 pe, .int .i64 i, .int .i64 X] 48)).alloc (.cells #[.int .i64 ((q : Int) + 1), .int .i64 (x.g q : Int)] 41))) := Lib.hid (((OnlyF.refl w).alloc _).alloc _)
  clear h
  go_enter Try.func34, Try.ntmps34
  go_wp2_with fail
  go_end0
  exact ⟨rfl, HS0.out.tl.tl.more (by omega), HF0.out⟩

set_option maxHeartbeats 1000000 in
theorem do_n4 {w0 w : World} {p g m mb lb tb sb wb : Nat} {x : Sx} {pe i X : Int} (h : SM w0 p g m (LM p mb lb) tb sb wb x x w) (hX : i64B X) (hs : x.s (lowB pe) = false) :
    Calls Try.prog 34 #[.agg #[.int .i64 3, .int .i64 pe, .int .i64 i, .int .i64 X], .pointer (some ⟨tb, 0, none⟩), .pointer (some ⟨sb, 0, none⟩), .pointer (some ⟨mb, 0, none⟩), .pointer (some ⟨wb, 0, none⟩), .pointer (some ⟨lb, 0, none⟩)] w (Done4 w0 p g m (LM p mb lb) tb sb wb x w) := by
  have x1 := hX.1
  have x2 := hX.2
  have hand := lowB_and pe
  have hq := lowB_lt pe
  have hiand := lowB_and i
  have hbl := lowB_lt i
  clear hX
  generalize lowB pe = q at *
  generalize lowB i = bt at *
  have hq0 : (0 : Int) ≤ (q : Int) := Int.natCast_nonneg _
  have hq1 : (q : Int) < 2 := by omega
  have hb0 : (0 : Int) ≤ (bt : Int) := Int.natCast_nonneg _
  have hb1 : (bt : Int) < 2 := by omega
  obtain ⟨t0, s0, ft, fs, tl, sl, wl⟩ := h.cells hq
  have ml := h.ks.k.2.1.b.lt
  have ll := h.ks.k.1.b.lt
  have m0 := h.ks.k.2.1.cells1.1
  obtain ⟨y0, y1, y2, _⟩ := h.ks.k.1.cells3
  have HS0 := Lib.hid (h.vars (k := 3) (pe := pe) (i := i) (X := X) (th := (q : Int) + 1) (tg := (x.g q : Int)))
  have HF0 : Hid (OnlyF (SF p g tb sb wb) w ((w.alloc (.cells #[.int .i64 3, .int .i64 pe, .int .i64 i, .int .i64 X] 48)).alloc (.cells #[.int .i64 ((q : Int) + 1), .int .i64 (x.g q : Int)] 41))) := Lib.hid (((OnlyF.refl w).alloc _).alloc _)
  clear h
  go_enter Try.func34, Try.ntmps34
  go_wp2_with fail
  go_end0
  exact ⟨rfl, HS0.out.tl.tl.more (by omega), HF0.out⟩

set_option maxHeartbeats 1000000 in
theorem do_n5 {w0 w : World} {p g m mb lb tb sb wb : Nat} {x : Sx} {k pe i X : Int} (h : SM w0 p g m (LM p mb lb) tb sb wb x x w) (hX : i64B X) (k1 : (k == 1) = false) (k2 : (k == 2) = false) (k3 : (k == 3) = false) :
    Calls Try.prog 34 #[.agg #[.int .i64 k, .int .i64 pe, .int .i64 i, .int .i64 X], .pointer (some ⟨tb, 0, none⟩), .pointer (some ⟨sb, 0, none⟩), .pointer (some ⟨mb, 0, none⟩), .pointer (some ⟨wb, 0, none⟩), .pointer (some ⟨lb, 0, none⟩)] w (Done4 w0 p g m (LM p mb lb) tb sb wb x w) := by
  have x1 := hX.1
  have x2 := hX.2
  have hand := lowB_and pe
  have hq := lowB_lt pe
  have hiand := lowB_and i
  have hbl := lowB_lt i
  clear hX
  generalize lowB pe = q at *
  generalize lowB i = bt at *
  have hq0 : (0 : Int) ≤ (q : Int) := Int.natCast_nonneg _
  have hq1 : (q : Int) < 2 := by omega
  have hb0 : (0 : Int) ≤ (bt : Int) := Int.natCast_nonneg _
  have hb1 : (bt : Int) < 2 := by omega
  obtain ⟨t0, s0, ft, fs, tl, sl, wl⟩ := h.cells hq
  have ml := h.ks.k.2.1.b.lt
  have ll := h.ks.k.1.b.lt
  have m0 := h.ks.k.2.1.cells1.1
  obtain ⟨y0, y1, y2, _⟩ := h.ks.k.1.cells3
  have HS0 := Lib.hid (h.vars (k := k) (pe := pe) (i := i) (X := X) (th := (q : Int) + 1) (tg := (x.g q : Int)))
  have HF0 : Hid (OnlyF (SF p g tb sb wb) w ((w.alloc (.cells #[.int .i64 k, .int .i64 pe, .int .i64 i, .int .i64 X] 48)).alloc (.cells #[.int .i64 ((q : Int) + 1), .int .i64 (x.g q : Int)] 41))) := Lib.hid (((OnlyF.refl w).alloc _).alloc _)
  clear h
  go_enter Try.func34, Try.ntmps34
  go_wp2_with fail
  go_end0
  exact ⟨rfl, HS0.out.tl.tl.more (by omega), HF0.out⟩

set_option maxHeartbeats 1000000 in
theorem do_w {w0 w : World} {p g m mb lb tb sb wb : Nat} {x : Sx} {pe i X : Int} (h : SM w0 p g m (LM p mb lb) tb sb wb x x w) (hX : i64B X) (hs : x.s (lowB pe) = false) (h0 : 0 ≤ X) (h1 : X ≤ 65535) (hm : m ≤ 10000) :
    Calls Try.prog 34 #[.agg #[.int .i64 1, .int .i64 pe, .int .i64 i, .int .i64 X], .pointer (some ⟨tb, 0, none⟩), .pointer (some ⟨sb, 0, none⟩), .pointer (some ⟨mb, 0, none⟩), .pointer (some ⟨wb, 0, none⟩), .pointer (some ⟨lb, 0, none⟩)] w (Done4 w0 p g m (LM p mb lb) tb sb wb (x.write (2 * lowB pe + lowB i) X) w) := by
  have x1 := hX.1
  have x2 := hX.2
  have hand := lowB_and pe
  have hq := lowB_lt pe
  have hiand := lowB_and i
  have hbl := lowB_lt i
  clear hX
  generalize lowB pe = q at *
  generalize lowB i = bt at *
  have hq0 : (0 : Int) ≤ (q : Int) := Int.natCast_nonneg _
  have hq1 : (q : Int) < 2 := by omega
  have hb0 : (0 : Int) ≤ (bt : Int) := Int.natCast_nonneg _
  have hb1 : (bt : Int) < 2 := by omega
  obtain ⟨t0, s0, ft, fs, tl, sl, wl⟩ := h.cells hq
  have ml := h.ks.k.2.1.b.lt
  have ll := h.ks.k.1.b.lt
  have m0 := h.ks.k.2.1.cells1.1
  obtain ⟨y0, y1, y2, _⟩ := h.ks.k.1.cells3
  have HS0 := Lib.hid (h.vars (k := 1) (pe := pe) (i := i) (X := X) (th := (q : Int) + 1) (tg := (x.g q : Int)))
  have HF0 : Hid (OnlyF (SF p g tb sb wb) w ((w.alloc (.cells #[.int .i64 1, .int .i64 pe, .int .i64 i, .int .i64 X] 48)).alloc (.cells #[.int .i64 ((q : Int) + 1), .int .i64 (x.g q : Int)] 41))) := Lib.hid (((OnlyF.refl w).alloc _).alloc _)
  clear h
  obtain ⟨j, hj⟩ : ∃ j : Nat, j = 2 * q + bt := ⟨_, rfl⟩
  have hj4 : j < 4 := by omega
  have hjq : j / 2 = q := by omega
  have wr1 : IntKind.i64.wrap (2 * (q : Int)) = 2 * (q : Int) := IntWalk.i64_in _ (by omega)
  have wr2 : IntKind.i64.wrap (2 * (q : Int) + (bt : Int)) = (j : Int) := (IntWalk.i64_in _ (by omega)).trans (by omega)
  have hj0 : (0 : Int) ≤ (j : Int) := Int.natCast_nonneg _
  have hj1 : (j : Int) < 4 := by omega
  rw [← hj]
  have HJ := Lib.hid hj
  clear hj
  go_enter Try.func34, Try.ntmps34
  go_wp2_with fail
  clear t0 s0 ft fs tl sl wl ml ll m0 y0 y1 y2
  generalize ((w.alloc (.cells #[.int .i64 1, .int .i64 pe, .int .i64 i, .int .i64 X] 48)).alloc (.cells #[.int .i64 ((q : Int) + 1), .int .i64 (x.g q : Int)] 41)) = w2 at HS0 HF0 ⊢
  have hvs : ∀ W, KS w0 (LD p mb lb w.heap.size (w.heap.size + 1) 1 pe i X ((q : Int) + 1) (x.g q : Int)) W → W.cell? ⟨w.heap.size + 1, 0, none⟩ = some (.int .i64 ((q : Int) + 1)) ∧ W.cell? ⟨w.heap.size + 1, 1, none⟩ = some (.int .i64 (x.g q : Int)) ∧ W.cell? ⟨w.heap.size, 3, none⟩ = some (.int .i64 X) ∧ W.cell? ⟨lb, 0, none⟩ = some (.int .i64 2) ∧ W.cell? ⟨lb, 1, none⟩ = some (.int .i64 0) ∧ W.cell? ⟨lb, 2, none⟩ = some (.int .i64 8) ∧ W.cell? ⟨mb, 0, none⟩ = some (.pointer (some ⟨p, 0, none⟩)) := fun W h => have k := kd_cells h.k; ⟨k.1, k.2.1, k.2.2.2.2.2.1, k.2.2.2.2.2.2.1, k.2.2.2.2.2.2.2.1, k.2.2.2.2.2.2.2.2.1, k.2.2.2.2.2.2.2.2.2⟩
  have HSd := Lib.hid HS0.out.drew
  have HFd := Lib.hid HF0.out.drew
  go_region_held3 (KS w0 (LD p mb lb w.heap.size (w.heap.size + 1) 1 pe i X ((q : Int) + 1) (x.g q : Int))) (first | (with_reducible assumption) | (with_reducible exact HSd.out.ks) | (with_reducible exact HSt.out.ks) | (with_reducible exact HS3.out.ks))
    (first
      | (go_at_call 12; ((with_reducible refine (at_any hj4).mono ?_); rintro e wt ⟨rfl, hb⟩; have HSt := Lib.hid (HSd.out.below hb); have HFt := Lib.hid (HFd.out.below hb); clear hb))
      | (go_at_call 15; ((with_reducible refine (ma_write HSt.out.ma hj4 hjq rfl rfl h0 h1 (by omega)).mono ?_); rintro e w3 ⟨rfl, M5, O5⟩; have HS3 := Lib.hid (HSt.out.arena M5 O5); have HF3 := Lib.hid (HFt.out.arena O5 (.inl rfl) (.inr (.inl rfl))); clear M5 O5)))
  clear hvs HSd HFd HSt HFt HS0 HF0
  obtain ⟨cw, fw⟩ := HS3.out.cellw hj4
  obtain ⟨d0, d1, d2, d3, d4, d5, d6, d7, d8, d9⟩ := kd_cells HS3.out.ks.k
  obtain ⟨l0, l1, l2, l3⟩ := kd_lts HS3.out.ks.k
  obtain ⟨t0, s0, ft, fs, tl, sl, wl⟩ := HS3.out.cells hq
  go_wp2_with fail
  go_end0
  have HE := ((HS3.out.setW hj4 true).eqY (y' := x.write j X) (fun _ _ => rfl) (fun _ _ => rfl) (fun _ _ => rfl)).tl.tl
  refine ⟨rfl, HE.more (by omega), HF3.out.set_ _ (.inl (.inr (.inr (.inr (.inr rfl)))))⟩

set_option maxHeartbeats 1000000 in
theorem do_c {w0 w : World} {p g m mb lb tb sb wb : Nat} {x : Sx} {pe i X : Int} (h : SM w0 p g m (LM p mb lb) tb sb wb x x w) (hX : i64B X) (hm : m ≤ 10000) :
    Calls Try.prog 34 #[.agg #[.int .i64 2, .int .i64 pe, .int .i64 i, .int .i64 X], .pointer (some ⟨tb, 0, none⟩), .pointer (some ⟨sb, 0, none⟩), .pointer (some ⟨mb, 0, none⟩), .pointer (some ⟨wb, 0, none⟩), .pointer (some ⟨lb, 0, none⟩)] w (Done4 w0 p g m (LM p mb lb) tb sb wb (x.commit (lowB pe)) w) := by
  have x1 := hX.1
  have x2 := hX.2
  have hand := lowB_and pe
  have hq := lowB_lt pe
  have hiand := lowB_and i
  have hbl := lowB_lt i
  clear hX
  generalize lowB pe = q at *
  generalize lowB i = bt at *
  have hq0 : (0 : Int) ≤ (q : Int) := Int.natCast_nonneg _
  have hq1 : (q : Int) < 2 := by omega
  have hb0 : (0 : Int) ≤ (bt : Int) := Int.natCast_nonneg _
  have hb1 : (bt : Int) < 2 := by omega
  obtain ⟨t0, s0, ft, fs, tl, sl, wl⟩ := h.cells hq
  have ml := h.ks.k.2.1.b.lt
  have ll := h.ks.k.1.b.lt
  have m0 := h.ks.k.2.1.cells1.1
  obtain ⟨y0, y1, y2, _⟩ := h.ks.k.1.cells3
  have HS0 := Lib.hid (h.vars (k := 2) (pe := pe) (i := i) (X := X) (th := (q : Int) + 1) (tg := (x.g q : Int)))
  have HF0 : Hid (OnlyF (SF p g tb sb wb) w ((w.alloc (.cells #[.int .i64 2, .int .i64 pe, .int .i64 i, .int .i64 X] 48)).alloc (.cells #[.int .i64 ((q : Int) + 1), .int .i64 (x.g q : Int)] 41))) := Lib.hid (((OnlyF.refl w).alloc _).alloc _)
  clear h
  go_enter Try.func34, Try.ntmps34
  go_wp2_with fail
  clear t0 s0 ft fs tl sl wl ml ll m0 y0 y1 y2
  generalize ((w.alloc (.cells #[.int .i64 2, .int .i64 pe, .int .i64 i, .int .i64 X] 48)).alloc (.cells #[.int .i64 ((q : Int) + 1), .int .i64 (x.g q : Int)] 41)) = w2 at HS0 HF0 ⊢
  refine (ma_commit HS0.out.ma hq rfl rfl (by omega)).mono ?_; rintro e w3 ⟨rfl, M5, O5⟩
  have HS3 := Lib.hid (HS0.out.arena M5 O5)
  have HF3 := Lib.hid (HF0.out.arena O5 (.inl rfl) (.inr (.inl rfl)))
  clear M5 O5 HS0 HF0
  obtain ⟨d0, d1, d2, d3, d4, d5, d6, d7, d8, d9⟩ := kd_cells HS3.out.ks.k
  obtain ⟨l0, l1, l2, l3⟩ := kd_lts HS3.out.ks.k
  obtain ⟨t0, s0, ft, fs, tl, sl, wl⟩ := HS3.out.cells hq
  go_wp2_with fail
  go_end0
  refine ⟨rfl, ((HS3.out.setS hq true).eqY (fun _ _ => rfl) (fun _ _ => rfl) (fun _ _ => rfl)).tl.tl.more (by omega), HF3.out.set_ _ (.inl (.inr (.inr (.inr (.inl rfl)))))⟩

set_option maxHeartbeats 1000000 in
theorem do_e {w0 w : World} {p g m mb lb tb sb wb : Nat} {x : Sx} {pe i X : Int} (h : SM w0 p g m (LM p mb lb) tb sb wb x x w) (hX : i64B X) (hs : x.s (lowB pe) = true) (hg : x.g (lowB pe) ≤ 10000) (hm : m ≤ 10000) :
    Calls Try.prog 34 #[.agg #[.int .i64 3, .int .i64 pe, .int .i64 i, .int .i64 X], .pointer (some ⟨tb, 0, none⟩), .pointer (some ⟨sb, 0, none⟩), .pointer (some ⟨mb, 0, none⟩), .pointer (some ⟨wb, 0, none⟩), .pointer (some ⟨lb, 0, none⟩)] w (Done4 w0 p g m (LM p mb lb) tb sb wb (((x.clean (2 * lowB pe)).clean (2 * lowB pe + 1)).end_ (lowB pe)) w) := by
  have x1 := hX.1
  have x2 := hX.2
  have hand := lowB_and pe
  have hq := lowB_lt pe
  have hiand := lowB_and i
  have hbl := lowB_lt i
  clear hX
  generalize lowB pe = q at *
  generalize lowB i = bt at *
  have hq0 : (0 : Int) ≤ (q : Int) := Int.natCast_nonneg _
  have hq1 : (q : Int) < 2 := by omega
  have hb0 : (0 : Int) ≤ (bt : Int) := Int.natCast_nonneg _
  have hb1 : (bt : Int) < 2 := by omega
  obtain ⟨t0, s0, ft, fs, tl, sl, wl⟩ := h.cells hq
  have ml := h.ks.k.2.1.b.lt
  have ll := h.ks.k.1.b.lt
  have m0 := h.ks.k.2.1.cells1.1
  obtain ⟨y0, y1, y2, _⟩ := h.ks.k.1.cells3
  have HS0 := Lib.hid (h.vars (k := 3) (pe := pe) (i := i) (X := X) (th := (q : Int) + 1) (tg := (x.g q : Int)))
  have HF0 : Hid (OnlyF (SF p g tb sb wb) w ((w.alloc (.cells #[.int .i64 3, .int .i64 pe, .int .i64 i, .int .i64 X] 48)).alloc (.cells #[.int .i64 ((q : Int) + 1), .int .i64 (x.g q : Int)] 41))) := Lib.hid (((OnlyF.refl w).alloc _).alloc _)
  clear h
  have wr1 : IntKind.i64.wrap (2 * (q : Int)) = 2 * (q : Int) := IntWalk.i64_in _ (by omega)
  go_enter Try.func34, Try.ntmps34
  go_wp2_with fail
  clear t0 s0 ft fs tl sl wl ml ll m0 y0 y1 y2
  generalize ((w.alloc (.cells #[.int .i64 3, .int .i64 pe, .int .i64 i, .int .i64 X] 48)).alloc (.cells #[.int .i64 ((q : Int) + 1), .int .i64 (x.g q : Int)] 41)) = w2 at HS0 HF0 ⊢
  clear hs
  go_loopw [10] (fun v wr => ∃ j : Nat, j ≤ 2 ∧ v = .int .i64 ((2 * q + j : Nat) : Int) ∧ SM w0 p g (m + 2 * j) (LD p mb lb w.heap.size (w.heap.size + 1) 3 pe i X ((q : Int) + 1) (x.g q : Int)) tb sb wb (clN x q j) (clN x q j) wr ∧ OnlyF (SF p g tb sb wb) w wr) (fun v _ => 2 * q + 2 - (intOf v).toNat)
  case atStart => exact ⟨0, by omega, by simp, HS0.out, HF0.out⟩
  case round =>
    clear HS0 HF0
    obtain ⟨jj, hjj, rfl, S, F⟩ := hrel
    obtain ⟨j, hj⟩ : ∃ j : Nat, j = 2 * q + jj := ⟨_, rfl⟩
    rw [← hj]
    have HJ := Lib.hid hj
    have HS1 := Lib.hid S
    have HF1 := Lib.hid F
    clear S F
    by_cases hlt : jj < 2
    · have hj4 : j < 4 := by omega
      have hj0 : (0 : Int) ≤ (j : Int) := Int.natCast_nonneg _
      have hj1 : (j : Int) < 4 := by omega
      have hj2 : (j : Int) < 2 * (q : Int) + 2 := by omega
      clear hj
      have HC : Hid ((clN x q jj).clean j = clN x q (jj + 1)) := Lib.hid (by rw [HJ.out]; exact clN_step x q hlt)
      obtain ⟨cw, fw⟩ := HS1.out.cellw hj4
      obtain ⟨d0, d1, d2, d3, d4, d5, d6, d7, d8, d9⟩ := kd_cells HS1.out.ks.k
      obtain ⟨l0, l1, l2, l3⟩ := kd_lts HS1.out.ks.k
      obtain ⟨t0, s0, ft, fs, tl, sl, wl⟩ := HS1.out.cells hq
      cases hwr : (clN x q jj).wr j
      · rw [hwr] at cw
        have HS2 : Hid (SM w0 p g (m + 2 * (jj + 1)) (LD p mb lb w.heap.size (w.heap.size + 1) 3 pe i X ((q : Int) + 1) (x.g q : Int)) tb sb wb (clN x q (jj + 1)) (clN x q (jj + 1)) (wr.setCell ⟨wb, j, none⟩ (.bool false))) := Lib.hid (by
          have k := HS1.out
          have k2 : SM w0 p g (m + 2 * jj) (LD p mb lb w.heap.size (w.heap.size + 1) 3 pe i X ((q : Int) + 1) (x.g q : Int)) tb sb wb (clN x q (jj + 1)) (clN x q jj) wr := ⟨HC.out ▸ k.ma.clean_no hwr, k.ks, k.bt, k.bs, k.bw, k.kt, k.np, k.ng, k.nt, k.ns, k.nw⟩
          have k3 := (k2.setW hj4 false).eqY (y' := clN x q (jj + 1)) (fun i _ => by rw [(clN_g x q jj).1, (clN_g x q (jj + 1)).1]) (fun i _ => by rw [(clN_g x q jj).2, (clN_g x q (jj + 1)).2]) (fun i _ => by rw [← HC.out]; rfl)
          exact k3.more (by omega))
        have HF2 := Lib.hid (HF1.out.set_ (b := wb) (j := j) (.bool false) (.inl (.inr (.inr (.inr (.inr rfl))))))
        clear hwr
        go_wp2_with fail
        go_roundw
        case rel => exact ⟨jj + 1, by omega, by have := HJ.out; go_num, HS2.out, HF2.out⟩
        case measure => have := HJ.out; simp [intOf]; omega
      · rw [hwr] at cw
        clear hwr
        go_wp2_with fail
        have HSd := Lib.hid HS1.out.drew
        have HFd := Lib.hid HF1.out.drew
        clear cw fw d0 d1 d2 d3 d4 d5 d6 d7 d8 d9 l0 l1 l2 l3 t0 s0 ft fs tl sl wl
        have hvs : ∀ W, KS w0 (LD p mb lb w.heap.size (w.heap.size + 1) 3 pe i X ((q : Int) + 1) (x.g q : Int)) W → W.cell? ⟨w.heap.size + 1, 0, none⟩ = some (.int .i64 ((q : Int) + 1)) ∧ W.cell? ⟨w.heap.size + 1, 1, none⟩ = some (.int .i64 (x.g q : Int)) ∧ W.cell? ⟨w.heap.size, 3, none⟩ = some (.int .i64 X) ∧ W.cell? ⟨lb, 0, none⟩ = some (.int .i64 2) ∧ W.cell? ⟨lb, 1, none⟩ = some (.int .i64 0) ∧ W.cell? ⟨lb, 2, none⟩ = some (.int .i64 8) ∧ W.cell? ⟨mb, 0, none⟩ = some (.pointer (some ⟨p, 0, none⟩)) := fun W h => have k := kd_cells h.k; ⟨k.1, k.2.1, k.2.2.2.2.2.1, k.2.2.2.2.2.2.1, k.2.2.2.2.2.2.2.1, k.2.2.2.2.2.2.2.2.1, k.2.2.2.2.2.2.2.2.2⟩
        go_region_held3 (KS w0 (LD p mb lb w.heap.size (w.heap.size + 1) 3 pe i X ((q : Int) + 1) (x.g q : Int))) (first | (with_reducible assumption) | (with_reducible exact HSd.out.ks) | (with_reducible exact HSt.out.ks) | (with_reducible exact HS3.out.ks))
          (first
            | (go_at_call 12; ((with_reducible refine (at_any hj4).mono ?_); rintro e wt ⟨rfl, hb⟩; have HSt := Lib.hid (HSd.out.below hb); have HFt := Lib.hid (HFd.out.below hb); clear hb))
            | (go_at_call 17; ((with_reducible refine (ma_clean HSt.out.ma hj4 (by omega)).mono ?_); rintro e w3 ⟨rfl, M5, O5⟩; have HS3 := Lib.hid (HSt.out.arena M5 O5); have HF3 := Lib.hid (HFt.out.arena O5 (.inl rfl) (.inr (.inl rfl))); clear M5 O5)))
        clear hvs HSd HFd HSt HFt HS1 HF1
        obtain ⟨cw, fw⟩ := HS3.out.cellw hj4
        have wl := HS3.out.bw.lt
        have HS2 : Hid (SM w0 p g (m + 2 * (jj + 1)) (LD p mb lb w.heap.size (w.heap.size + 1) 3 pe i X ((q : Int) + 1) (x.g q : Int)) tb sb wb (clN x q (jj + 1)) (clN x q (jj + 1)) (w3.setCell ⟨wb, j, none⟩ (.bool false))) := Lib.hid (by
          have k := HS3.out
          rw [HC.out] at k
          have k3 := (k.setW hj4 false).eqY (y' := clN x q (jj + 1)) (fun i _ => by rw [(clN_g x q jj).1, (clN_g x q (jj + 1)).1]) (fun i _ => by rw [(clN_g x q jj).2, (clN_g x q (jj + 1)).2]) (fun i _ => by rw [← HC.out]; rfl)
          exact k3.more (by omega))
        have HF2 := Lib.hid (HF3.out.set_ (b := wb) (j := j) (.bool false) (.inl (.inr (.inr (.inr (.inr rfl))))))
        go_wp2_with fail
        go_roundw
        case rel => exact ⟨jj + 1, by omega, by have := HJ.out; go_num, HS2.out, HF2.out⟩
        case measure => have := HJ.out; simp [intOf]; omega
    · have : jj = 2 := by omega
      subst this
      have hj0 : (0 : Int) ≤ (j : Int) := Int.natCast_nonneg _
      have hj1 : (j : Int) ≤ 4 := by omega
      have hj2 : ¬ (j : Int) < 2 * (q : Int) + 2 := by omega
      clear hj
      obtain ⟨d0, d1, d2, d3, d4, d5, d6, d7, d8, d9⟩ := kd_cells HS1.out.ks.k
      obtain ⟨l0, l1, l2, l3⟩ := kd_lts HS1.out.ks.k
      go_wp2_with fail
      refine (ma_end (q := q) HS1.out.ma hq (by have := (clN_g x q 2).1; rw [this]; omega) (fun i hi hiq => by
        show (if i = 2 * q + 1 then false else if i = 2 * q then false else x.wr i) = false
        by_cases e1 : i = 2 * q + 1
        · rw [if_pos e1]
        · rw [if_neg e1, if_pos (by omega)]) rfl (by rw [(clN_g x q 2).1]) (by omega)).mono ?_; rintro e w3 ⟨rfl, M5, O5⟩
      have HS3 := Lib.hid (HS1.out.arena M5 O5)
      have HF3 := Lib.hid (HF1.out.arena O5 (.inl rfl) (.inr (.inl rfl)))
      clear M5 O5 HS1 HF1 d0 d1 d2 d3 d4 d5 d6 d7 d8 d9 l0 l1 l2 l3
      have wg : IntKind.i64.wrap ((x.g q : Int) + 1) = ((x.g q + 1 : Nat) : Int) := (IntWalk.i64_in _ (by omega)).trans (by omega)
      obtain ⟨t0, s0, ft, fs, tl, sl, wl⟩ := HS3.out.cells hq
      rw [(clN_g x q 2).1] at t0
      obtain ⟨_, _, _, _, _, _, n7, _, _⟩ := HS3.out.t_ne
      go_wp2_with fail
      go_end0
      have HE := (((HS3.out.setT hq (x.g q + 1)).setS hq false).eqY (y' := (clN x q 2).end_ q) (fun i _ => by simp only [Sx.end_, (clN_g x q 2).1]) (fun i _ => by simp only [Sx.end_]) (fun i _ => rfl)).tl.tl
      exact ⟨rfl, HE.more (by omega), (HF3.out.set_ _ (.inl (.inr (.inr (.inl rfl))))).set_ _ (.inl (.inr (.inr (.inr (.inl rfl)))))⟩

end Go.Proofs.Ytipjbgkfhkidkaa
