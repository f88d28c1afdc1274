/- Calls that read, as the laws make them. -/
import Derived.Test.YtgafnomfdnbblaaZJ

/- Calls that read, as the laws make them: what they cost, and what they tell; a row's place beside a play; a tree that is merged again. -/
namespace Go.Proofs.Ytgafnomfdnbblaa
open Go.RowKit

set_option maxRecDepth 100000

/-- A law's state, with so many steps of grace; what is right of the trees is told apart. -/
structure BW (c : Nat) (w0 W : World) (zb : Nat) (vc : Array Value) (K : PK9) (g : Mg9) (mk : Nat → Nat) (ts : List Tp) (vr : Value) (vs : List Value) : Prop where
  n : K.n ≤ 40
  z : Blk W zb 27 vc
  pl : ∃ m, m + 45 * c ≤ 900000 ∧ PlayM W K m g mk ts vr vs
  be : Below w0.heap.size w0 W
  hb : w0.heap.size ≤ K.base
  hz : zb < K.base
  ko : KOk K
/-- A play's variable, beside a row's place. -/
structure PR (W : World) (q : Nat) (V S T : Int) (p n pb cp mb cm vb cv : Nat) (vr : Value) (rg i : Nat) (v : Value) : Prop where
  pf : PF W q V S T p n pb cp mb cm vb cv vr
  r : ∃ cs, Blk W rg 44 cs ∧ cs[i]? = some v
section
variable {c : Nat} {w w' W W' w0 : World} {zb : Nat} {vc : Array Value} {K : PK9} {m m' : Nat} {g g' : Mg9} {mk mk' : Nat → Nat} {ts ts' : List Tp} {vr vr' : Value} {vs vs' : List Value}
theorem LW.bw (h : LW w0 W zb vc K m g mk ts vr vs) (hn : K.n ≤ 40) (hm : m + 45 * c ≤ 900000) : BW c w0 W zb vc K g mk ts vr vs := ⟨hn, h.z, ⟨m, hm, h.pl⟩, h.be, h.hb, h.hz, h.ko⟩
theorem BW.size (h : BW c w0 W zb vc K g mk ts vr vs) : K.base ≤ W.heap.size := by
  obtain ⟨m, _, hp⟩ := h.pl
  exact Nat.le_of_lt (Nat.lt_of_le_of_lt h.ko.q (Blk.lt hp.blk))
theorem BW.lw (h : BW c w0 W zb vc K g mk ts vr vs) (hf : FI K.V K.S g mk ts) : ∃ m, m + 45 * c ≤ 900000 ∧ LW w0 W zb vc K m g mk ts vr vs := by
  obtain ⟨m, hm, hp⟩ := h.pl
  exact ⟨m, hm, h.z, hp, hf, h.be, h.hb, h.hz, h.ko⟩
theorem BW.below (h : BW c w0 W zb vc K g mk ts vr vs) (hb : Below W.heap.size W W') : BW c w0 W' zb vc K g mk ts vr vs := by
  obtain ⟨m, hm, hp⟩ := h.pl
  exact ⟨h.n, h.z.below hb h.z.lt, ⟨m, hm, hp.below hb⟩, h.be.trans (hb.mono (Nat.le_trans h.hb h.size)), h.hb, h.hz, h.ko⟩
theorem BW.drew (h : BW c w0 W zb vc K g mk ts vr vs) : BW c w0 W.drew zb vc K g mk ts vr vs := h.below (Below.refl _ _).drew
theorem BW.pq (h : BW c w0 W zb vc K g mk ts vr vs) : PQ W K vr := by obtain ⟨m, hm, hp⟩ := h.pl; exact hp.blk
theorem BW.tm (h : BW c w0 W zb vc K g mk ts vr vs) : ∃ m, m + 45 * c ≤ 900000 ∧ TM W K.V K.S K.T K.p K.gb K.cap m g := by obtain ⟨m, hm, hp⟩ := h.pl; exact ⟨m, hm, hp.tm⟩
theorem BW.rv (h : BW c w0 W zb vc K g mk ts vr vs) : RowV W K.base vr vs := by obtain ⟨m, hm, hp⟩ := h.pl; exact hp.rv
theorem BW.ro (h : BW c w0 W zb vc K g mk ts vr vs) : RowsOk W K.mb vs ts := by obtain ⟨m, hm, hp⟩ := h.pl; exact hp.ro
theorem BW.fs (h : BW c w0 W zb vc K g mk ts vr vs) : FS W K.pb K.mb K.vb K.n (fun z => g z 5) mk (vx0 K.V) := by obtain ⟨m, hm, hp⟩ := h.pl; exact hp.fs
theorem BW.only {c' : Nat} (h : BW c w0 W zb vc K g mk ts vr vs) (A : TM W' K.V K.S K.T K.p K.gb K.cap m' g') (hm : m' + 45 * c' ≤ 900000) (ho : Only K.p K.gb W W') (h5 : ∀ y, g' y 5 = g y 5) : BW c' w0 W' zb vc K g' mk ts vr vs := by
  obtain ⟨m, _, hp⟩ := h.pl
  have hb := Only.below (Below.refl _ _) ho h.size h.ko.p h.ko.g
  exact ⟨h.n, h.z.below hb h.hz, ⟨m', hm, hp.step A ho h5⟩, h.be.trans (hb.mono h.hb), h.hb, h.hz, h.ko⟩
theorem BW.less {c' : Nat} (h : BW c w0 W zb vc K g mk ts vr vs) (hc : c' ≤ c) : BW c' w0 W zb vc K g mk ts vr vs := by
  obtain ⟨m, hm, hp⟩ := h.pl
  exact ⟨h.n, h.z, ⟨m, by omega, hp⟩, h.be, h.hb, h.hz, h.ko⟩
end

section
variable {c : Nat} {w w' W W' w0 : World} {zb : Nat} {vc : Array Value} {V S T : Int} {q p gb cap pb mb vb cp cm cv base m m' i j x k rg n : Nat} {g g' : Mg9} {mk : Nat → Nat} {ts : List Tp} {vr v : Value} {vs : List Value} {t ta tb : Tp}
theorem PR.below (h : PR w q V S T p n pb cp mb cm vb cv vr rg i v) (hb : Below w.heap.size w w') : PR w' q V S T p n pb cp mb cm vb cv vr rg i v := by
  obtain ⟨h1, cs, h2, h3⟩ := h
  exact ⟨h1.below hb, cs, h2.below hb h2.lt, h3⟩
theorem PR.drew (h : PR w q V S T p n pb cp mb cm vb cv vr rg i v) : PR w.drew q V S T p n pb cp mb cm vb cv vr rg i v := h.below (Below.refl _ _).drew
theorem PR.only (h : PR w q V S T p n pb cp mb cm vb cv vr rg i v) (A : TM w V S T p gb cap m g) (ho : Only p gb w w') : PR w' q V S T p n pb cp mb cm vb cv vr rg i v := by
  obtain ⟨h1, cs, h2, h3⟩ := h
  exact ⟨h1.only A ho, cs, h2.treap A ho (by decide) (by decide), h3⟩
theorem pr_rule (q : Nat) (V S T : Int) (p n pb cp mb cm vb cv : Nat) (vr : Value) (rg i : Nat) (v : Value) : ∀ W : World, PR W q V S T p n pb cp mb cm vb cv vr rg i v → W.cell? ⟨q, 0, none⟩ = some (.int .i64 V) ∧ W.cell? ⟨q, 1, none⟩ = some (.int .i64 S) ∧ W.cell? ⟨q, 2, none⟩ = some (.int .i64 T) ∧ W.cell? ⟨q, 4, none⟩ = some (.int .i64 V) ∧ W.cell? ⟨q, 5, none⟩ = some (.int .i64 S) ∧ W.cell? ⟨q, 6, none⟩ = some (.int .i64 T) ∧ W.cell? ⟨q, 7, none⟩ = some (.iface 71 (pmV p)) ∧ W.cell? ⟨q, 8, none⟩ = some (.int .i64 1) ∧ W.cell? ⟨q, 9, none⟩ = some (.int .i64 0) ∧ W.cell? ⟨q, 10, none⟩ = some vr ∧ W.cell? ⟨q, 11, none⟩ = some (.slice (some ⟨pb, 0, none⟩) (n + 1) cp) ∧ W.cell? ⟨q, 12, none⟩ = some (.slice (some ⟨mb, 0, none⟩) (n + 1) cm) ∧ W.cell? ⟨q, 13, none⟩ = some (.slice (some ⟨vb, 0, none⟩) (n + 1) cv) ∧ W.cell? ⟨rg, i, none⟩ = some v := fun W h => by
  obtain ⟨y0, y1, y2, y3, y4, y5, y6, y7, y8, y9, y10, y11, y12, y13⟩ := h.pf.cells
  obtain ⟨_, cs, h2, h3⟩ := h
  exact ⟨y0, y1, y2, y4, y5, y6, y7, y8, y9, y10, y11, y12, y13, (h2.cell i).trans h3⟩
theorem PR.lt (h : PR w q V S T p n pb cp mb cm vb cv vr rg i v) : q < w.heap.size ∧ rg < w.heap.size := by
  obtain ⟨h1, cs, h2, h3⟩ := h
  exact ⟨h1.lt, h2.lt⟩

variable (h : BW c w0 w zb vc ⟨V, S, T, q, p, gb, cap, pb, mb, vb, cp, cm, cv, base⟩ g mk ts vr vs)
include h
theorem BW.pf : PF w q V S T p (nN V S) pb cp mb cm vb cv vr := h.pq
theorem BW.tt : ∃ m, m + 45 * c ≤ 900000 ∧ TM w V S T p gb cap m g := h.tm
theorem BW.nn : nN V S ≤ 40 := h.n
/-- .. behind a call that reads. -/
theorem BW.read {c' : Nat} (A : TM w' V S T p gb cap m' g) (hm : m' + 45 * c' ≤ 900000) (ho : Only p gb w w') : BW c' w0 w' zb vc ⟨V, S, T, q, p, gb, cap, pb, mb, vb, cp, cm, cv, base⟩ g mk ts vr vs := h.only A hm ho fun _ => rfl
end

section
variable {c : Nat} {w w' W W' w0 : World} {zb : Nat} {vc : Array Value} {V S T : Int} {q p gb cap pb mb vb cp cm cv base m m' i j x k rg n : Nat} {g g' : Mg9} {mk : Nat → Nat} {ts : List Tp} {vr v : Value} {vs : List Value} {t ta tb : Tp}
/-- What a call that reads leaves. -/
def Rd (c : Nat) (w0 : World) (zb : Nat) (vc : Array Value) (K : PK9) (g : Mg9) (mk : Nat → Nat) (ts : List Tp) (vr : Value) (vs : List Value) (r : Value) (w : World) (e : Ending) (w' : World) : Prop := e = .returned r ∧ BW c w0 w' zb vc K g mk ts vr vs ∧ Only K.p K.gb w w'
theorem broot (h : BW (c + 1) w0 w zb vc ⟨V, S, T, q, p, gb, cap, pb, mb, vb, cp, cm, cv, base⟩ g mk ts vr vs) (hF : FI V S g mk ts) (hi : ts[i]? = some t) (hx : x ∈ t.row) :
    Calls Try.prog 16 #[vTr V S T p, .int .i64 (x : Int)] w (Rd c w0 zb vc ⟨V, S, T, q, p, gb, cap, pb, mb, vb, cp, cm, cv, base⟩ g mk ts vr vs (.int .i64 (t.root : Int)) w) := by
  obtain ⟨m, hm, A⟩ := h.tt
  have hn := h.nn
  refine (froot A hF hi hx (show m ≤ 980000 by omega) rfl).mono ?_
  rintro e w' ⟨rfl, A', O⟩
  exact ⟨rfl, h.read A' (by omega) O, O⟩
theorem bindex (h : BW (c + 5) w0 w zb vc ⟨V, S, T, q, p, gb, cap, pb, mb, vb, cp, cm, cv, base⟩ g mk ts vr vs) (hF : FI V S g mk ts) (hi : ts[i]? = some t) (hj : t.row[j]? = some x) :
    Calls Try.prog 17 #[vTr V S T p, .int .i64 (x : Int)] w (Rd c w0 zb vc ⟨V, S, T, q, p, gb, cap, pb, mb, vb, cp, cm, cv, base⟩ g mk ts vr vs (.int .i64 (j : Int)) w) := by
  obtain ⟨m, hm, A⟩ := h.tt
  have hn := h.nn
  refine (findex A hF hi hj (show m ≤ 980000 by omega) rfl).mono ?_
  rintro e w' ⟨rfl, A', O⟩
  exact ⟨rfl, h.read A' (by omega) O, O⟩
theorem bsize (h : BW (c + 1) w0 w zb vc ⟨V, S, T, q, p, gb, cap, pb, mb, vb, cp, cm, cv, base⟩ g mk ts vr vs) (hx : x ≤ nN V S) :
    Calls Try.prog 18 #[vTr V S T p, .int .i64 (x : Int)] w (Rd c w0 zb vc ⟨V, S, T, q, p, gb, cap, pb, mb, vb, cp, cm, cv, base⟩ g mk ts vr vs (.int .i64 (nS (g x 6) : Int)) w) := by
  obtain ⟨m, hm, A⟩ := h.tt
  have hn := h.nn
  refine (tsize A hx (show m ≤ 1000000 by omega)).mono ?_
  rintro e w' ⟨rfl, A', O⟩
  exact ⟨rfl, h.read A' (by omega) O, O⟩
theorem bverts (h : BW (c + 1) w0 w zb vc ⟨V, S, T, q, p, gb, cap, pb, mb, vb, cp, cm, cv, base⟩ g mk ts vr vs) (hx : x ≤ nN V S) :
    Calls Try.prog 19 #[vTr V S T p, .int .i64 (x : Int)] w (Rd c w0 zb vc ⟨V, S, T, q, p, gb, cap, pb, mb, vb, cp, cm, cv, base⟩ g mk ts vr vs (.int .i64 (vS (g x 6) : Int)) w) := by
  obtain ⟨m, hm, A⟩ := h.tt
  have hn := h.nn
  refine (tverts A hx (show m ≤ 1000000 by omega)).mono ?_
  rintro e w' ⟨rfl, A', O⟩
  exact ⟨rfl, h.read A' (by omega) O, O⟩
theorem bmarked (h : BW (c + 1) w0 w zb vc ⟨V, S, T, q, p, gb, cap, pb, mb, vb, cp, cm, cv, base⟩ g mk ts vr vs) (hF : FI V S g mk ts) (hi : ts[i]? = some t) (hx : x ∈ t.row) (hk : k < 2) :
    Calls Try.prog 20 #[vTr V S T p, .int .i64 (x : Int), .int .i64 (k : Int)] w (Rd c w0 zb vc ⟨V, S, T, q, p, gb, cap, pb, mb, vb, cp, cm, cv, base⟩ g mk ts vr vs (.bool (hasB (mk x) k)) w) := by
  obtain ⟨m, hm, A⟩ := h.tt
  have hn := h.nn
  refine (fmarked A hF hi hx hk (show m ≤ 980000 by omega) rfl rfl).mono ?_
  rintro e w' ⟨rfl, A', O⟩
  exact ⟨rfl, h.read A' (by omega) O, O⟩
theorem bfirst (h : BW (c + 4) w0 w zb vc ⟨V, S, T, q, p, gb, cap, pb, mb, vb, cp, cm, cv, base⟩ g mk ts vr vs) (hF : FI V S g mk ts) (hi : ts[i]? = some t) (hk : k < 2) {kI : Int} (hkI : kI = (k : Int)) :
    Calls Try.prog 21 #[vTr V S T p, .int .i64 (t.root : Int), .int .i64 kI] w (Rd c w0 zb vc ⟨V, S, T, q, p, gb, cap, pb, mb, vb, cp, cm, cv, base⟩ g mk ts vr vs (.int .i64 (firstR mk k t.row : Int)) w) := by
  obtain ⟨m, hm, A⟩ := h.tt
  have hn := h.nn
  refine (ffirst A hF hi hk (show m ≤ 980000 by omega) rfl hkI).mono ?_
  rintro e w' ⟨rfl, A', O⟩
  exact ⟨rfl, h.read A' (by omega) O, O⟩
theorem bsizeT (h : BW (c + 1) w0 w zb vc ⟨V, S, T, q, p, gb, cap, pb, mb, vb, cp, cm, cv, base⟩ g mk ts vr vs) (hmk : ∀ x, mk x < 4) (hL : Loose (vxN V) mk g t) (hz : t.size < 65536) (hr : t.root ≤ nN V S) :
    Calls Try.prog 18 #[vTr V S T p, .int .i64 (t.root : Int)] w (Rd c w0 zb vc ⟨V, S, T, q, p, gb, cap, pb, mb, vb, cp, cm, cv, base⟩ g mk ts vr vs (.int .i64 (t.size : Int)) w) := by
  obtain ⟨m, hm, A⟩ := h.tt
  have hn := h.nn
  refine ((by have := tsize A hr (show m ≤ 1000000 by omega); rw [hL.sum A.z, (sumT_parts hmk t hz).1] at this; exact this : Calls Try.prog 18 #[vTr V S T p, .int .i64 (t.root : Int)] w (Did V S T p gb cap (m + 1) g (.int .i64 (t.size : Int)) w))).mono ?_
  rintro e w' ⟨rfl, A', O⟩
  exact ⟨rfl, h.read A' (by omega) O, O⟩
theorem bzroot (h : BW (c + 1) w0 w zb vc ⟨V, S, T, q, p, gb, cap, pb, mb, vb, cp, cm, cv, base⟩ g mk ts vr vs)  :
    Calls Try.prog 16 #[vTr V S T p, .int .i64 0] w (Rd c w0 zb vc ⟨V, S, T, q, p, gb, cap, pb, mb, vb, cp, cm, cv, base⟩ g mk ts vr vs (.int .i64 0) w) := by
  obtain ⟨m, hm, A⟩ := h.tt
  have hn := h.nn
  refine (zroot A (show m ≤ 980000 by omega)).mono ?_
  rintro e w' ⟨rfl, A', O⟩
  exact ⟨rfl, h.read A' (by omega) O, O⟩
theorem bzsize (h : BW (c + 1) w0 w zb vc ⟨V, S, T, q, p, gb, cap, pb, mb, vb, cp, cm, cv, base⟩ g mk ts vr vs)  :
    Calls Try.prog 18 #[vTr V S T p, .int .i64 0] w (Rd c w0 zb vc ⟨V, S, T, q, p, gb, cap, pb, mb, vb, cp, cm, cv, base⟩ g mk ts vr vs (.int .i64 0) w) := by
  obtain ⟨m, hm, A⟩ := h.tt
  have hn := h.nn
  refine (zsize A (show m ≤ 980000 by omega)).mono ?_
  rintro e w' ⟨rfl, A', O⟩
  exact ⟨rfl, h.read A' (by omega) O, O⟩
theorem bzverts (h : BW (c + 1) w0 w zb vc ⟨V, S, T, q, p, gb, cap, pb, mb, vb, cp, cm, cv, base⟩ g mk ts vr vs)  :
    Calls Try.prog 19 #[vTr V S T p, .int .i64 0] w (Rd c w0 zb vc ⟨V, S, T, q, p, gb, cap, pb, mb, vb, cp, cm, cv, base⟩ g mk ts vr vs (.int .i64 0) w) := by
  obtain ⟨m, hm, A⟩ := h.tt
  have hn := h.nn
  refine (zverts A (show m ≤ 980000 by omega)).mono ?_
  rintro e w' ⟨rfl, A', O⟩
  exact ⟨rfl, h.read A' (by omega) O, O⟩
theorem bzfirst (h : BW (c + 4) w0 w zb vc ⟨V, S, T, q, p, gb, cap, pb, mb, vb, cp, cm, cv, base⟩ g mk ts vr vs) (hmk : ∀ x, mk x < 4) :
    Calls Try.prog 21 #[vTr V S T p, .int .i64 0, .int .i64 0] w (Rd c w0 zb vc ⟨V, S, T, q, p, gb, cap, pb, mb, vb, cp, cm, cv, base⟩ g mk ts vr vs (.int .i64 0) w) := by
  obtain ⟨m, hm, A⟩ := h.tt
  have hn := h.nn
  refine (zfirst A hmk (show m ≤ 980000 by omega)).mono ?_
  rintro e w' ⟨rfl, A', O⟩
  exact ⟨rfl, h.read A' (by omega) O, O⟩
/-- List. -/
def RdL (c : Nat) (w0 : World) (zb : Nat) (vc : Array Value) (K : PK9) (g : Mg9) (mk : Nat → Nat) (ts : List Tp) (vr : Value) (vs : List Value) (l : List Nat) (w : World) (e : Ending) (w' : World) : Prop := ∃ a c', e = .returned (.slice a l.length c') ∧ LI w' (.slice a l.length c') l ∧ (∀ q, bk (.slice a l.length c') = some q → w.heap.size ≤ q) ∧ BW c w0 w' zb vc K g mk ts vr vs ∧ Only K.p K.gb w w'
theorem blist (h : BW (c + 2) w0 w zb vc ⟨V, S, T, q, p, gb, cap, pb, mb, vb, cp, cm, cv, base⟩ g mk ts vr vs) (hF : FI V S g mk ts) (hi : ts[i]? = some t) :
    Calls Try.prog 15 #[vTr V S T p, .int .i64 (t.root : Int)] w (RdL c w0 zb vc ⟨V, S, T, q, p, gb, cap, pb, mb, vb, cp, cm, cv, base⟩ g mk ts vr vs t.row w) := by
  obtain ⟨m, hm, A⟩ := h.tt
  have hn := h.nn
  refine (flist A hF hi (show m ≤ 980000 by omega) rfl).mono ?_
  rintro e w' ⟨v, rfl, hl, hb, A', O⟩
  obtain ⟨a, c', rfl, _⟩ := hl.shape
  exact ⟨a, c', rfl, hl, hb, h.read A' (by omega) O, O⟩
theorem bzlist (h : BW (c + 2) w0 w zb vc ⟨V, S, T, q, p, gb, cap, pb, mb, vb, cp, cm, cv, base⟩ g mk ts vr vs) :
    Calls Try.prog 15 #[vTr V S T p, .int .i64 0] w (RdL c w0 zb vc ⟨V, S, T, q, p, gb, cap, pb, mb, vb, cp, cm, cv, base⟩ g mk ts vr vs [] w) := by
  obtain ⟨m, hm, A⟩ := h.tt
  have hn := h.nn
  refine (zlist A (show m ≤ 980000 by omega)).mono ?_
  rintro e w' ⟨v, rfl, hl, hb, A', O⟩
  obtain ⟨a, c', rfl, _⟩ := hl.shape
  exact ⟨a, c', rfl, hl, hb, h.read A' (by omega) O, O⟩
/-- The reference's root of a row. -/
theorem brroot (h : BW c w0 w zb vc ⟨V, S, T, q, p, gb, cap, pb, mb, vb, cp, cm, cv, base⟩ g mk ts vr vs) (hF : FI V S g mk ts) (hv : vs[i]? = some v) (ht : ts[i]? = some t) (vr' vm vv : Value) :
    Calls Try.prog 14 #[vF vr' pb (nN V S) cp vm vv, v] w fun e w' => e = .returned (.int .i64 (t.root : Int)) ∧ BW c w0 w' zb vc ⟨V, S, T, q, p, gb, cap, pb, mb, vb, cp, cm, cv, base⟩ g mk ts vr vs ∧ Below w.heap.size w w' := by
  obtain ⟨m, hm, hl⟩ := h.lw hF
  refine (lroot_at hl.pl hF hv ht vr' vm vv).mono ?_
  rintro e w' ⟨rfl, hb⟩
  exact ⟨rfl, h.below hb, hb⟩
theorem bis (h : BW c w0 w zb vc ⟨V, S, T, q, p, gb, cap, pb, mb, vb, cp, cm, cv, base⟩ g mk ts vr vs) (hF : FI V S g mk ts) :
    Calls Try.prog 11 #[.pointer (some ⟨q, 0, none⟩)] w fun e w' => e = .returned (.bool true) ∧ Below w0.heap.size w0 w' := by
  obtain ⟨m, hm, hl⟩ := h.lw hF
  refine (lis hl (by omega)).mono ?_
  rintro e w' ⟨rfl, hl', _⟩
  exact ⟨rfl, hl'.be⟩
/-- A tree that was parted is merged again. -/
theorem fagain (A : TM w V S T p gb cap m g') (hF : FI V S g mk ts) (ht : ts[i]? = some t) (hF' : FI V S g' mk (wo i i 0 ts ++ some2 ta tb)) (ra : ta.row = t.row.take j) (rb : tb.row = t.row.drop j) (Sa : Stands (vxN V) mk g' ta) (Sb : Stands (vxN V) mk g' tb) (Ha : Hp (fun z => g' z 5) ta) (Hb : Hp (fun z => g' z 5) tb) (h5 : ∀ y, g' y 5 = g y 5) (hm : m ≤ 960000) :
    Calls Try.prog 24 #[vTr V S T p, .int .i64 (ta.root : Int), .int .i64 (tb.root : Int)] w fun e w' => ∃ g2, e = .returned (.int .i64 (t.root : Int)) ∧ TM w' V S T p gb cap (m + 12 * nN V S + 2) g2 ∧ FI V S g2 mk ts ∧ Only p gb w w' ∧ ∀ y, g2 y 5 = g' y 5 := by
  obtain ⟨a1, a2, a3, a4, a5, a6⟩ := hF.at ht
  have hrow : ta.row ++ tb.row = t.row := by rw [ra, rb, List.take_append_drop]
  have hsz : ta.size + tb.size = t.size := by unfold Tp.size; rw [← hrow, List.length_append]
  refine (tmerge A hF.hm Sa.1 Sb.1 (by omega) (by rw [hrow]; exact a4) (fun y hy => a5 y (by rw [← hrow]; exact List.mem_append_left _ hy)) (fun y hy => a5 y (by rw [← hrow]; exact List.mem_append_right _ hy)) (show m ≤ 970000 by omega)).mono ?_
  rintro e w' ⟨g2, u, rfl, A', O', hs, hr, hh, ho, h5'⟩
  have hu : Hp (fun z => g' z 5) u := hh Ha Hb
  have ha2 : Hp (fun z => g' z 5) t := a2.same h5
  have e : u = t := hp_one hu ha2 (hr.trans hrow) (by rw [hr, hrow]; exact a4)
  subst e
  refine ⟨g2, rfl, A', ?_, O', h5'⟩
  have := hF'.swap (L := some2 ta tb) (N := [u]) (R := wo i i 0 ts) (mk' := mk) (g' := g2) List.perm_append_comm (by rw [some2_row, flat_one, hrow]) (fun t' ht' => by
    have e : t' = u := by simpa using ht'
    subst e; exact ⟨hs, ha2, a3⟩) (fun y hy k => ho y (by rw [some2_row, hrow] at hy; exact hy) k) h5' hF.hm (fun _ _ => rfl)
  exact this.perm ((List.perm_append_comm).trans (wo_perm1 (Nat.zero_le _) ht).symm)
end

end Go.Proofs.Ytgafnomfdnbblaa

/- Rows and nodes beside a play, as the laws read them. -/
namespace Go.Proofs.Ytgafnomfdnbblaa
open Go.RowKit

set_option maxRecDepth 100000

theorem OB.onlyB {c : Nat} {w w' w0 : World} {zb : Nat} {vc : Array Value} {V S T : Int} {q p gb cap pb mb vb cp cm cv base ob n : Nat} {rc : Rec7} {g : Mg9} {mk : Nat → Nat} {ts : List Tp} {vr : Value} {vs : List Value} (h : OB w ob n rc) (hB : BW c w0 w zb vc ⟨V, S, T, q, p, gb, cap, pb, mb, vb, cp, cm, cv, base⟩ g mk ts vr vs) (ho : Only p gb w w') : OB w' ob n rc := by
  obtain ⟨m, _, A⟩ := hB.tt
  exact h.onlyT A ho
theorem LI.onlyB {c : Nat} {w w' w0 : World} {zb : Nat} {vc : Array Value} {V S T : Int} {q p gb cap pb mb vb cp cm cv base : Nat} {g : Mg9} {mk : Nat → Nat} {ts : List Tp} {vr v : Value} {vs : List Value} {l : List Nat} (h : LI w v l) (hB : BW c w0 w zb vc ⟨V, S, T, q, p, gb, cap, pb, mb, vb, cp, cm, cv, base⟩ g mk ts vr vs) (ho : Only p gb w w') : LI w' v l := by
  obtain ⟨m, _, A⟩ := hB.tt
  exact h.onlyT A ho
theorem LI.at {w : World} {a : Option Addr} {n c k x : Nat} {l : List Nat} (h : LI w (.slice a n c) l) (hx : l[k]? = some x) : ∃ b off, a = some ⟨b, off, none⟩ ∧ w.cell? ⟨b, off + k, none⟩ = some (.int .i64 (x : Int)) := by
  obtain ⟨a', cap, e, h1, h2, h3, h4⟩ := h
  injection e with e1 e2 e3
  subst e1 e3
  have hk := (List.getElem?_eq_some_iff.1 hx).1
  obtain ⟨b, off, zs, rfl, hz, hs, he⟩ := h4 (by omega)
  exact ⟨b, off, rfl, (hz.cell (off + k)).trans (he k x hx)⟩
theorem LI.cell_at {w : World} {b off n c k x : Nat} {l : List Nat} (h : LI w (.slice (some ⟨b, off, none⟩) n c) l) (hx : l[k]? = some x) : w.cell? ⟨b, off + k, none⟩ = some (.int .i64 (x : Int)) := by
  obtain ⟨b', off', e, h1⟩ := h.at hx
  injection e with e
  injection e with e1 e2
  subst e1 e2; exact h1
theorem LI.bk_at {w : World} {b off n c k x : Nat} {l : List Nat} (h : LI w (.slice (some ⟨b, off, none⟩) n c) l) (hx : l[k]? = some x) : bk (.slice (some ⟨b, off, none⟩) n c) = some b := by
  obtain ⟨a', cap, e, h1, h2, h3, h4⟩ := h
  injection e with e1 e2 e3
  subst e3
  have hk := (List.getElem?_eq_some_iff.1 hx).1
  exact bk_some (by omega)
/-- What the comparisons of a node read. -/
structure PT (W : World) (q : Nat) (V S T : Int) (p n pb cp mb cm vb cv : Nat) (vr : Value) (ob : Nat) (rc : Rec7) (v l : Value) (row : List Nat) (fb : Nat) (f0 f1 : Nat) : Prop where
  pf : PF W q V S T p n pb cp mb cm vb cv vr
  o : OB W ob n rc
  v : LI W v row
  l : LI W l row
  f : Blk W fb 53 #[.int .i64 (f0 : Int), .int .i64 (f1 : Int)]
section
variable {c : Nat} {w w' W w0 : World} {zb : Nat} {vc : Array Value} {V S T : Int} {q p gb cap pb mb vb cp cm cv base ob n fb f0 f1 x z : Nat} {rc : Rec7} {g : Mg9} {mk : Nat → Nat} {ts : List Tp} {vr v l : Value} {vs : List Value} {row : List Nat}
theorem PT.below (h : PT w q V S T p n pb cp mb cm vb cv vr ob rc v l row fb f0 f1) (hb : Below w.heap.size w w') : PT w' q V S T p n pb cp mb cm vb cv vr ob rc v l row fb f0 f1 := ⟨h.pf.below hb, h.o.below hb, h.v.below hb, h.l.below hb, h.f.below hb h.f.lt⟩
theorem PT.drew (h : PT w q V S T p n pb cp mb cm vb cv vr ob rc v l row fb f0 f1) : PT w.drew q V S T p n pb cp mb cm vb cv vr ob rc v l row fb f0 f1 := h.below (Below.refl _ _).drew
theorem PT.onlyB (h : PT w q V S T p n pb cp mb cm vb cv vr ob rc v l row fb f0 f1) (hB : BW c w0 w zb vc ⟨V, S, T, q, p, gb, cap, pb, mb, vb, cp, cm, cv, base⟩ g mk ts vr vs) (ho : Only p gb w w') : PT w' q V S T p n pb cp mb cm vb cv vr ob rc v l row fb f0 f1 := by
  obtain ⟨m, _, A⟩ := hB.tt
  exact ⟨h.pf.only A ho, h.o.onlyT A ho, h.v.onlyT A ho, h.l.onlyT A ho, h.f.treap A ho (by decide) (by decide)⟩
theorem PT.lt (h : PT w q V S T p n pb cp mb cm vb cv vr ob rc v l row fb f0 f1) : q < w.heap.size ∧ fb < w.heap.size ∧ ob < w.heap.size := by
  obtain ⟨zs, hz, _⟩ := h.o
  exact ⟨h.pf.lt, h.f.lt, hz.lt⟩
theorem pt_rule (q : Nat) (V S T : Int) (p n pb cp mb cm vb cv : Nat) (vr : Value) (ob : Nat) (rc : Rec7) (b1 o1 n1 a1 b2 o2 n2 a2 : Nat) (row : List Nat) (fb f0 f1 : Nat) {j x z3 z4 : Nat} (hx : row[j]? = some x) (hxn : x ≤ n) (h3 : rc x 3 = z3) (h4 : rc x 4 = z4) :
    ∀ W : World, PT W q V S T p n pb cp mb cm vb cv vr ob rc (.slice (some ⟨b1, o1, none⟩) n1 a1) (.slice (some ⟨b2, o2, none⟩) n2 a2) row fb f0 f1 → W.cell? ⟨q, 0, none⟩ = some (.int .i64 V) ∧ W.cell? ⟨q, 1, none⟩ = some (.int .i64 S) ∧ W.cell? ⟨q, 2, none⟩ = some (.int .i64 T) ∧ W.cell? ⟨q, 4, none⟩ = some (.int .i64 V) ∧ W.cell? ⟨q, 5, none⟩ = some (.int .i64 S) ∧ W.cell? ⟨q, 6, none⟩ = some (.int .i64 T) ∧ W.cell? ⟨q, 7, none⟩ = some (.iface 71 (pmV p)) ∧ W.cell? ⟨q, 8, none⟩ = some (.int .i64 1) ∧ W.cell? ⟨q, 9, none⟩ = some (.int .i64 0) ∧ W.cell? ⟨q, 10, none⟩ = some vr ∧ W.cell? ⟨q, 11, none⟩ = some (.slice (some ⟨pb, 0, none⟩) (n + 1) cp) ∧ W.cell? ⟨q, 12, none⟩ = some (.slice (some ⟨mb, 0, none⟩) (n + 1) cm) ∧ W.cell? ⟨q, 13, none⟩ = some (.slice (some ⟨vb, 0, none⟩) (n + 1) cv) ∧
      W.cell? ⟨ob, x * 7 + 3, none⟩ = some (.int .i64 (z3 : Int)) ∧ W.cell? ⟨ob, x * 7 + 4, none⟩ = some (.int .i64 (z4 : Int)) ∧ W.cell? ⟨b1, o1 + j, none⟩ = some (.int .i64 (x : Int)) ∧ W.cell? ⟨b2, o2 + j, none⟩ = some (.int .i64 (x : Int)) := fun W h => by
  obtain ⟨y0, y1, y2, y3, y4, y5, y6, y7, y8, y9, y10, y11, y12, y13⟩ := h.pf.cells
  obtain ⟨zs, hz, hzs, hc⟩ := h.o
  exact ⟨y0, y1, y2, y4, y5, y6, y7, y8, y9, y10, y11, y12, y13, by rw [← h3]; exact (hz.cell _).trans (hc x 3 hxn (by omega)), by rw [← h4]; exact (hz.cell _).trans (hc x 4 hxn (by omega)), h.v.cell_at hx, h.l.cell_at hx⟩
theorem bsizeE (h : BW (c + 1) w0 w zb vc ⟨V, S, T, q, p, gb, cap, pb, mb, vb, cp, cm, cv, base⟩ g mk ts vr vs) (hx : x ≤ nN V S) (hz : nS (g x 6) = z) :
    Calls Try.prog 18 #[vTr V S T p, .int .i64 (x : Int)] w (Rd c w0 zb vc ⟨V, S, T, q, p, gb, cap, pb, mb, vb, cp, cm, cv, base⟩ g mk ts vr vs (.int .i64 (z : Int)) w) := by
  subst hz; exact bsize h hx
theorem bvertsE (h : BW (c + 1) w0 w zb vc ⟨V, S, T, q, p, gb, cap, pb, mb, vb, cp, cm, cv, base⟩ g mk ts vr vs) (hx : x ≤ nN V S) (hz : vS (g x 6) = z) :
    Calls Try.prog 19 #[vTr V S T p, .int .i64 (x : Int)] w (Rd c w0 zb vc ⟨V, S, T, q, p, gb, cap, pb, mb, vb, cp, cm, cv, base⟩ g mk ts vr vs (.int .i64 (z : Int)) w) := by
  subst hz; exact bverts h hx
end

end Go.Proofs.Ytgafnomfdnbblaa

/- Trees that are built anew out of single nodes, plainly; a play that is told another one's forest. -/
namespace Go.Proofs.Ytgafnomfdnbblaa
open Go.RowKit

set_option maxRecDepth 100000

theorem perm_nd : ∀ {l1 l2 : List Nat}, l1.Nodup → l2.Nodup → (∀ x, x ∈ l1 ↔ x ∈ l2) → l1.Perm l2
  | [], l2, _, _, h => by
    have : l2 = [] := List.eq_nil_iff_forall_not_mem.2 fun x hx => by simpa using (h x).2 hx
    subst this; exact .nil
  | x :: l, l2, n1, n2, h => by
    have hx : x ∈ l2 := (h x).1 (by simp)
    obtain ⟨a, b, rfl⟩ := List.append_of_mem hx
    have n2' := (List.perm_middle (a := x) (l₁ := a) (l₂ := b)).nodup_iff.1 n2
    rw [List.nodup_cons] at n1 n2'
    refine (List.Perm.cons x (perm_nd n1.2 n2'.2 fun y => ?_)).trans List.perm_middle.symm
    have hy := h y
    simp only [List.mem_cons, List.mem_append] at hy ⊢
    constructor
    · intro h1
      rcases hy.1 (.inr h1) with h2 | h2 | h2
      · exact .inl h2
      · exact absurd (h2 ▸ h1) n1.1
      · exact .inr h2
    · intro h1
      have h3 : y ≠ x := fun e => n2'.1 (by rw [← e]; exact List.mem_append.2 h1)
      rcases hy.2 (by rcases h1 with h1 | h1; exact .inl h1; exact .inr (.inr h1)) with h2 | h2
      · exact absurd h2 h3
      · exact h2

/-- A tree, if it isn't empty. -/
def some1 (t : Tp) : List Tp := if 0 < t.row.length then [t] else []
theorem some1_row (t : Tp) : (some1 t).flatMap Tp.row = t.row := by
  unfold some1
  split
  · simp
  · rw [List.eq_nil_of_length_eq_zero (by omega : t.row.length = 0)]; rfl
theorem some1_is {t : Tp} (h : t ≠ .nil) : some1 t = [t] := by
  unfold some1
  rw [if_pos]
  cases hr : t.row with
  | nil => exact absurd (Tp.row_eq_nil hr) h
  | cons x l => simp
theorem Hp.pri {pri pri' : Nat → Nat} : ∀ {t : Tp}, Hp pri t → (∀ y ∈ t.row, pri' y = pri y) → Hp pri' t
  | .nil, _, _ => trivial
  | .node l x r, h, he => by
    have hx : pri' x = pri x := he x (by simp [Tp.row])
    refine ⟨fun y hy => ?_, fun y hy => ?_, Hp.pri h.2.2.1 fun y hy => he y (by simp [Tp.row, hy]), Hp.pri h.2.2.2 fun y hy => he y (by simp [Tp.row, hy])⟩
    · have := h.1 y hy
      unfold ab at *
      rw [hx, he y (by simp [Tp.row, hy])]; exact this
    · have := h.2.1 y hy
      unfold ab at *
      rw [hx, he y (by simp [Tp.row, hy])]; exact this
/-- The marks below a place. -/
theorem low_on {s b : Nat} (hs : s < 4) (hb : b < 2) (h : hasB s b = true) : setB (s % 2 ^ b) b true = s % 2 ^ (b + 1) := by
  have key : ∀ s < 4, ∀ b < 2, hasB s b = true → setB (s % 2 ^ b) b true = s % 2 ^ (b + 1) := by decide
  exact key s hs b hb h
theorem low_off {s b : Nat} (hs : s < 4) (hb : b < 2) (h : hasB s b = false) : s % 2 ^ (b + 1) = s % 2 ^ b := by
  have key : ∀ s < 4, ∀ b < 2, hasB s b = false → s % 2 ^ (b + 1) = s % 2 ^ b := by decide
  exact key s hs b hb h

section
variable {V S T : Int} {g g' : Mg9} {mk mk' : Nat → Nat} {ts ts' B : List Tp} {t u : Tp} {w w' W : World} {p gb cap m x : Nat}
theorem FI.marks (hF : FI V S g mk ts) (h : ∀ y, y ≠ 0 → y ≤ nN V S → mk' y = mk y) (hm : ∀ x, mk' x < 4) : FI V S g mk' ts :=
  ⟨hm, fun t ht => ⟨(hF.st t ht).1.turn (hF.one ht) (fun _ _ _ => rfl) (fun x hx => h x (hF.nodes ht x hx).1 (hF.nodes ht x hx).2), (hF.st t ht).2⟩, hF.nd, hF.al⟩
theorem sing_perm (hF : FI V S g mk ts) : (sing (nN V S)).Perm ((ts.flatMap Tp.row).map sgl) := by
  unfold sing
  refine List.Perm.map sgl (perm_nd List.nodup_range' hF.nd fun x => ?_)
  rw [← hF.mem x, List.mem_range'_1]
  omega
/-- A node is merged ahead of a tree. -/
theorem fjoin (A : TM w V S T p gb cap m g) (F : FI V S g mk (B ++ (sgl x :: some1 u))) (hu : Stands (vxN V) mk g u) (hhu : Hp (fun z => g z 5) u) (hm : m ≤ 960000) :
    Calls Try.prog 24 #[vTr V S T p, .int .i64 (x : Int), .int .i64 (u.root : Int)] w fun e w' => ∃ g' t, e = .returned (.int .i64 ((t.root : Nat) : Int)) ∧ TM w' V S T p gb cap (m + 12 * nN V S + 2) g' ∧ FI V S g' mk (B ++ some1 t) ∧ t.row = x :: u.row ∧ Stands (vxN V) mk g' t ∧ Hp (fun z => g' z 5) t ∧ Only p gb w w' ∧ ∀ y, g' y 5 = g y 5 := by
  have hst := F.st (sgl x) (by simp)
  have hfl : (sgl x :: some1 u).flatMap Tp.row = x :: u.row := by rw [List.flatMap_cons, some1_row]; rfl
  have hnd : ((sgl x).row ++ u.row).Nodup := by
    have := F.nd
    rw [List.flatMap_append, List.nodup_append, hfl] at this
    exact this.2.1
  have hz : (sgl x).size + u.size ≤ nN V S := by
    have := flat_len F
    rw [List.flatMap_append, List.length_append, hfl, List.length_cons] at this
    have e : (sgl x).size = 1 := rfl
    unfold Tp.size at *; omega
  have hn : ∀ y ∈ x :: u.row, y ≠ 0 ∧ y ≤ nN V S := fun y hy => (F.mem y).2 (by rw [List.flatMap_append, hfl]; exact List.mem_append_right _ hy)
  refine (tmerge A F.hm hst.1.1 hu.1 hz hnd (fun y hy => hn y (by have e : y = x := by simpa [sgl, Tp.row] using hy
                                                                  simp [e])) (fun y hy => hn y (List.mem_cons_of_mem _ hy)) (show m ≤ 970000 by omega)).mono ?_
  rintro e w' ⟨g', t, rfl, A', O', hs, hr, hh, ho, h5⟩
  have hr' : t.row = x :: u.row := hr
  have hne : t ≠ .nil := fun e => by rw [e] at hr'; simp [Tp.row] at hr'
  have hht := hh hst.2.1 hhu
  refine ⟨g', t, rfl, A', ?_, hr', hs, hht.same h5, O', h5⟩
  rw [some1_is hne]
  refine F.swap (L := sgl x :: some1 u) (N := [t]) (R := B) List.perm_append_comm (by rw [flat_one, hfl, hr']) (fun t' ht' => ?_) (fun y hy k => ho y (by rw [hfl, ← hr'] at hy; exact hy) k) h5 F.hm fun _ _ => rfl
  have e : t' = t := by simpa using ht'
  subst e
  exact ⟨hs, hht, hne⟩
end

section
variable {w W : World} {V S T : Int} {q p gb cap pb mb vb cp cm cv base m n : Nat} {g : Mg9} {mk : Nat → Nat} {ts : List Tp} {vr : Value} {vs : List Value} {q2 p2 gb2 cap2 pb2 mb2 vb2 cp2 cm2 cv2 m2 : Nat} {g2 : Mg9} {vr2 : Value}
/-- A play is told another one's forest. -/
theorem PlayM.told (h : PlayM w ⟨V, S, T, q, p, gb, cap, pb, mb, vb, cp, cm, cv, base⟩ m g mk ts vr vs) (hq : PF w q2 V S T p2 (nN V S) pb2 cp2 mb2 cm2 vb2 cv2 vr2) (A : TM w V S T p2 gb2 cap2 m2 g2) (hn : nN V S = n) (h5 : ∀ y, y ≤ n → g2 y 5 = g y 5) (npg : pb ≠ gb2) :
    PlayM ((((w.setCell ⟨q2, 10, none⟩ vr).setCell ⟨q2, 11, none⟩ (.slice (some ⟨pb, 0, none⟩) (n + 1) cp)).setCell ⟨q2, 12, none⟩ (.slice (some ⟨mb, 0, none⟩) (n + 1) cm)).setCell ⟨q2, 13, none⟩ (.slice (some ⟨vb, 0, none⟩) (n + 1) cv)) ⟨V, S, T, q2, p2, gb2, cap2, pb, mb, vb, cp, cm, cv, base⟩ m2 g2 mk ts vr vs ∧
    Only q2 q2 w ((((w.setCell ⟨q2, 10, none⟩ vr).setCell ⟨q2, 11, none⟩ (.slice (some ⟨pb, 0, none⟩) (n + 1) cp)).setCell ⟨q2, 12, none⟩ (.slice (some ⟨mb, 0, none⟩) (n + 1) cm)).setCell ⟨q2, 13, none⟩ (.slice (some ⟨vb, 0, none⟩) (n + 1) cv)) := by
  subst hn
  have ho : Only q2 q2 w ((((w.setCell ⟨q2, 10, none⟩ vr).setCell ⟨q2, 11, none⟩ (.slice (some ⟨pb, 0, none⟩) (nN V S + 1) cp)).setCell ⟨q2, 12, none⟩ (.slice (some ⟨mb, 0, none⟩) (nN V S + 1) cm)).setCell ⟨q2, 13, none⟩ (.slice (some ⟨vb, 0, none⟩) (nN V S + 1) cv)) :=
    (((only_set w q2 10 vr).trans (only_set _ q2 11 _)).trans (only_set _ q2 12 _)).trans (only_set _ q2 13 _)
  have hq : Blk w q2 49 _ := hq
  have hq4 := (((hq.set_ 10 vr).set_ 11 (.slice (some ⟨pb, 0, none⟩) (nN V S + 1) cp)).set_ 12 (.slice (some ⟨mb, 0, none⟩) (nN V S + 1) cm)).set_ 13 (.slice (some ⟨vb, 0, none⟩) (nN V S + 1) cv)
  have tf : ∀ {W : World} {cs : Array Value} (i : Nat) (u : Value), TM W V S T p2 gb2 cap2 m2 g2 → Blk W q2 49 cs → TM (W.setCell ⟨q2, i, none⟩ u) V S T p2 gb2 cap2 m2 g2 := fun i u A hz => A.far hz (by decide) (by decide) u
  obtain ⟨⟨z1, b3, e1⟩, hM, hV⟩ := h.fs
  have hfs : FS w pb mb vb (nN V S) (fun y => g2 y 5) mk (vx0 V) := ⟨⟨z1, b3, fun k hk => (e1 k hk).trans (by show some (Value.int .u64 ((g k 5 : Nat) : Int)) = some (Value.int .u64 ((g2 k 5 : Nat) : Int)); rw [h5 k hk])⟩, hM, hV⟩
  have hrv : RowV w base vr vs := h.rv
  have hro : RowsOk w mb vs ts := h.ro
  exact ⟨⟨hq4, tf 13 _ (tf 12 _ (tf 11 _ (tf 10 _ A hq) (hq.set_ 10 _)) ((hq.set_ 10 _).set_ 11 _)) (((hq.set_ 10 _).set_ 11 _).set_ 12 _), hrv.only ho (hrv.ne_blk hq (by decide)) (hrv.ne_blk hq (by decide)), hro.only ho hq hq (by decide) (by decide), hfs.onlyq hq (by decide) (by decide) (by decide) ho, npg⟩, ho⟩
end

/-- What the merges of TreapSame read: a play's variable, a row of numbers. -/
structure PU (W : World) (q : Nat) (V S T : Int) (p n pb cp mb cm vb cv : Nat) (vr v : Value) (row : List Nat) : Prop where
  pf : PF W q V S T p n pb cp mb cm vb cv vr
  v : LI W v row
section
variable {w w' : World} {V S T : Int} {q p gb cap pb mb vb cp cm cv m n : Nat} {g : Mg9} {vr v : Value} {row : List Nat}
theorem PU.below (h : PU w q V S T p n pb cp mb cm vb cv vr v row) (hb : Below w.heap.size w w') : PU w' q V S T p n pb cp mb cm vb cv vr v row := ⟨h.pf.below hb, h.v.below hb⟩
theorem PU.drew (h : PU w q V S T p n pb cp mb cm vb cv vr v row) : PU w.drew q V S T p n pb cp mb cm vb cv vr v row := h.below (Below.refl _ _).drew
theorem PU.only (h : PU w q V S T p n pb cp mb cm vb cv vr v row) (A : TM w V S T p gb cap m g) (ho : Only p gb w w') : PU w' q V S T p n pb cp mb cm vb cv vr v row := ⟨h.pf.only A ho, h.v.onlyT A ho⟩
theorem pu_rule (q : Nat) (V S T : Int) (p n pb cp mb cm vb cv : Nat) (vr : Value) (b1 o1 n1 a1 : Nat) (row : List Nat) {j x : Nat} (hx : row[j]? = some x) :
    ∀ W : World, PU W q V S T p n pb cp mb cm vb cv vr (.slice (some ⟨b1, o1, none⟩) n1 a1) row → W.cell? ⟨q, 4, none⟩ = some (.int .i64 V) ∧ W.cell? ⟨q, 5, none⟩ = some (.int .i64 S) ∧ W.cell? ⟨q, 6, none⟩ = some (.int .i64 T) ∧ W.cell? ⟨q, 7, none⟩ = some (.iface 71 (pmV p)) ∧ W.cell? ⟨q, 8, none⟩ = some (.int .i64 1) ∧ W.cell? ⟨q, 9, none⟩ = some (.int .i64 0) ∧ W.cell? ⟨b1, o1 + j, none⟩ = some (.int .i64 (x : Int)) := fun W h => by
  obtain ⟨y0, y1, y2, y3, y4, y5, y6, y7, y8, y9, y10, y11, y12, y13⟩ := h.pf.cells
  exact ⟨y4, y5, y6, y7, y8, y9, h.v.cell_at hx⟩
end

end Go.Proofs.Ytgafnomfdnbblaa
