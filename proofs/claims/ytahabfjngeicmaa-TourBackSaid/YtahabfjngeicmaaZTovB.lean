/- The laws' state: a play, beside the case that came in; begun and step as the laws call them; calls that read, with steps of grace. -/
import Derived.Test.YtahabfjngeicmaaZTovS
import Derived.Test.YtahabfjngeicmaaZTovN
import Derived.Test.YtahabfjngeicmaaZTouS
namespace Go.Proofs.Ytahabfjngeicmaa
open Go.RowKit

set_option maxRecDepth 100000

/-- A law's state. -/
structure LX (w0 W : World) (zb : Nat) (vc : Array Value) (V S T : Int) (n q p gb cap rb lb cr cl base : Nat) (gB : Nat → Nat) (m : Nat) (g : Mg9) (ts : List Tp) (vr : Nat → Value) (rs : Nat → List (List Nat)) (gr : Nat → List (Option (Nat × Nat))) : Prop where
  z : Blk W zb 27 vc
  pl : PL W V S T n q p gb cap rb lb cr cl base gB m g ts vr rs gr
  be : Below w0.heap.size w0 W
  hb : w0.heap.size ≤ base
  hz : zb < base
/-- .. with steps of grace. -/
def GX (w0 W : World) (zb : Nat) (vc : Array Value) (V S T : Int) (n q p gb cap rb lb cr cl base : Nat) (gB : Nat → Nat) (g : Mg9) (ts : List Tp) (vr : Nat → Value) (rs : Nat → List (List Nat)) (gr : Nat → List (Option (Nat × Nat))) (c : Nat) : Prop :=
  ∃ m, m + c ≤ 950000 ∧ LX w0 W zb vc V S T n q p gb cap rb lb cr cl base gB m g ts vr rs gr
section
variable {w w' W w0 : World} {zb : Nat} {vc : Array Value} {V S T kd a b c d : Int} {n q p gb cap rb lb cr cl base m m' x y k k' L u v s : Nat} {gB : Nat → Nat} {g g' : Mg9} {ts ts' : List Tp} {vr : Nat → Value} {rs : Nat → List (List Nat)} {gr : Nat → List (Option (Nat × Nat))} {t t2 : Tp}
theorem LX.size (h : LX w0 w zb vc V S T n q p gb cap rb lb cr cl base gB m g ts vr rs gr) : base ≤ w.heap.size := Nat.le_of_lt (Nat.lt_of_le_of_lt h.pl.pg.bq h.pl.pg.lt)
theorem LX.below (h : LX w0 w zb vc V S T n q p gb cap rb lb cr cl base gB m g ts vr rs gr) (hb : Below w.heap.size w w') : LX w0 w' zb vc V S T n q p gb cap rb lb cr cl base gB m g ts vr rs gr := ⟨h.z.below hb h.z.lt, h.pl.below hb, h.be.trans (hb.mono h.be.size), h.hb, h.hz⟩
theorem LX.tree (h : LX w0 w zb vc V S T n q p gb cap rb lb cr cl base gB m g ts vr rs gr) (hf : FM w' V S T p gb cap m' g ts) (ho : Only p gb w w') : LX w0 w' zb vc V S T n q p gb cap rb lb cr cl base gB m' g ts vr rs gr :=
  ⟨h.z.treap h.pl.pg.fm.tm ho (by decide) (by decide), h.pl.read hf ho, Only.below h.be ho h.be.size (Nat.le_trans h.hb h.pl.pg.bp) (Nat.le_trans h.hb h.pl.pg.bg), h.hb, h.hz⟩
theorem LX.drew (h : LX w0 w zb vc V S T n q p gb cap rb lb cr cl base gB m g ts vr rs gr) : LX w0 w.drew zb vc V S T n q p gb cap rb lb cr cl base gB m g ts vr rs gr := h.below (Below.refl _ _).drew
theorem LX.more (h : LX w0 w zb vc V S T n q p gb cap rb lb cr cl base gB m g ts vr rs gr) (hm : m ≤ m') : LX w0 w zb vc V S T n q p gb cap rb lb cr cl base gB m' g ts vr rs gr := ⟨h.z, h.pl.more hm, h.be, h.hb, h.hz⟩
theorem LX.gx (h : LX w0 w zb vc V S T n q p gb cap rb lb cr cl base gB m g ts vr rs gr) (hc : m + k ≤ 950000) : GX w0 w zb vc V S T n q p gb cap rb lb cr cl base gB g ts vr rs gr k := ⟨m, hc, h⟩
theorem GX.below (h : GX w0 w zb vc V S T n q p gb cap rb lb cr cl base gB g ts vr rs gr k) (hb : Below w.heap.size w w') : GX w0 w' zb vc V S T n q p gb cap rb lb cr cl base gB g ts vr rs gr k := by obtain ⟨m, h1, h2⟩ := h; exact ⟨m, h1, h2.below hb⟩
theorem GX.drew (h : GX w0 w zb vc V S T n q p gb cap rb lb cr cl base gB g ts vr rs gr k) : GX w0 w.drew zb vc V S T n q p gb cap rb lb cr cl base gB g ts vr rs gr k := h.below (Below.refl _ _).drew
theorem GX.less (h : GX w0 w zb vc V S T n q p gb cap rb lb cr cl base gB g ts vr rs gr k) (hk : k' ≤ k) : GX w0 w zb vc V S T n q p gb cap rb lb cr cl base gB g ts vr rs gr k' := by obtain ⟨m, h1, h2⟩ := h; exact ⟨m, by omega, h2⟩
theorem GX.pg (h : GX w0 w zb vc V S T n q p gb cap rb lb cr cl base gB g ts vr rs gr k) : ∃ m, PG w V S T n q p gb cap rb lb cr cl base gB m g ts vr rs gr := by obtain ⟨m, _, h2⟩ := h; exact ⟨m, h2.pl.pg⟩
theorem GX.pl (h : GX w0 w zb vc V S T n q p gb cap rb lb cr cl base gB g ts vr rs gr k) : ∃ m, PL w V S T n q p gb cap rb lb cr cl base gB m g ts vr rs gr := by obtain ⟨m, _, h2⟩ := h; exact ⟨m, h2.pl⟩
theorem GX.pq (h : GX w0 w zb vc V S T n q p gb cap rb lb cr cl base gB g ts vr rs gr k) : PQ w q p rb lb n cr cl V S T := by obtain ⟨m, h1⟩ := h.pg; exact h1.blk
theorem GX.qlt (h : GX w0 w zb vc V S T n q p gb cap rb lb cr cl base gB g ts vr rs gr k) : q < w.heap.size := Blk.lt h.pq
theorem GX.fi (h : GX w0 w zb vc V S T n q p gb cap rb lb cr cl base gB g ts vr rs gr k) : FI V S g (fun _ => 0) ts := by obtain ⟨m, h1⟩ := h.pl; exact h1.fi
theorem GX.hR (h : GX w0 w zb vc V S T n q p gb cap rb lb cr cl base gB g ts vr rs gr k) : Rt V S T := by obtain ⟨m, h1⟩ := h.pl; exact h1.hR
theorem GX.tm (h : GX w0 w zb vc V S T n q p gb cap rb lb cr cl base gB g ts vr rs gr k) : ∃ m, TM w V S T p gb cap m g := by obtain ⟨m, h1⟩ := h.pg; exact ⟨m, h1.fm.tm⟩
theorem GX.be (h : GX w0 w zb vc V S T n q p gb cap rb lb cr cl base gB g ts vr rs gr k) : Below w0.heap.size w0 w := by obtain ⟨m, _, h2⟩ := h; exact h2.be
theorem GX.zl (h : GX w0 w zb vc V S T n q p gb cap rb lb cr cl base gB g ts vr rs gr k) : Blk w zb 27 vc := by obtain ⟨m, _, h2⟩ := h; exact h2.z
/-- A list, behind a call that reads. -/
theorem GX.li {v : Value} {l : List Nat} (h : GX w0 w zb vc V S T n q p gb cap rb lb cr cl base gB g ts vr rs gr k) (ho : Only p gb w w') (hl : LI w v l) : LI w' v l := by obtain ⟨m, h1⟩ := h.tm; exact hl.onlyT h1 ho
/-- What a call leaves that reads. -/
def Gd (w0 : World) (zb : Nat) (vc : Array Value) (V S T : Int) (n q p gb cap rb lb cr cl base : Nat) (gB : Nat → Nat) (g : Mg9) (ts : List Tp) (vr : Nat → Value) (rs : Nat → List (List Nat)) (gr : Nat → List (Option (Nat × Nat))) (k : Nat) (r : Value) (w : World) (e : Ending) (w' : World) : Prop :=
  e = .returned r ∧ GX w0 w' zb vc V S T n q p gb cap rb lb cr cl base gB g ts vr rs gr k ∧ Only p gb w w'
theorem GX.rd {r : Value} {e : Ending} (h2 : LX w0 w zb vc V S T n q p gb cap rb lb cr cl base gB m g ts vr rs gr) (hd : Rd V S T p gb cap m' g ts r w e w') (hm : m' + k ≤ 950000) : Gd w0 zb vc V S T n q p gb cap rb lb cr cl base gB g ts vr rs gr k r w e w' := ⟨hd.1, ⟨m', hm, h2.tree hd.2.1 hd.2.2⟩, hd.2.2⟩
theorem groot (h : GX w0 w zb vc V S T n q p gb cap rb lb cr cl base gB g ts vr rs gr (k + 96)) (ht : t ∈ ts) (hx : x ∈ t.row) {xI : Int} (hxI : xI = (x : Int)) :
    Calls Try.prog 20 #[vTr V S T p, .int .i64 xI] w (Gd w0 zb vc V S T n q p gb cap rb lb cr cl base gB g ts vr rs gr k (.int .i64 (t.root : Int)) w) := by
  obtain ⟨m, h1, h2⟩ := h
  have h96 := h2.pl.n96
  exact (hroot h2.pl.pg.fm ht hx (by omega) hxI).mono fun e w' hd => GX.rd h2 hd (by omega)
theorem glist (h : GX w0 w zb vc V S T n q p gb cap rb lb cr cl base gB g ts vr rs gr (k + 192)) (ht : t ∈ ts) {xI : Int} (hxI : xI = (t.root : Int)) :
    Calls Try.prog 15 #[vTr V S T p, .int .i64 xI] w fun e w' => ∃ v, e = .returned v ∧ LI w' v t.row ∧ (∀ b, bk v = some b → w.heap.size ≤ b) ∧ GX w0 w' zb vc V S T n q p gb cap rb lb cr cl base gB g ts vr rs gr k ∧ Only p gb w w' := by
  obtain ⟨m, h1, h2⟩ := h
  have h96 := h2.pl.n96
  refine (hlist h2.pl.pg.fm ht (by omega) hxI).mono ?_
  rintro e w' ⟨v, rfl, h3, h4, h5, h6⟩
  exact ⟨v, rfl, h3, h4, ⟨_, by omega, h2.tree h5 h6⟩, h6⟩
theorem gsame (h : GX w0 w zb vc V S T n q p gb cap rb lb cr cl base gB g ts vr rs gr (k + 192)) (hL : (L : Int) < lv V) (hu : (u : Int) < V) (hv : (v : Int) < V) (ht : t ∈ ts) (hx : Xn V L u ∈ t.row) (hs : t2 ∈ ts) (hy : Xn V L v ∈ t2.row) :
    Calls Try.prog 13 #[vTr V S T p, .int .i64 (L : Int), .int .i64 (u : Int), .int .i64 (v : Int)] w (Gd w0 zb vc V S T n q p gb cap rb lb cr cl base gB g ts vr rs gr k (.bool (decide (t.root = t2.root))) w) := by
  obtain ⟨m, h1, h2⟩ := h
  have h96 := h2.pl.n96
  exact (tsame h2.pl.pg.fm hL hu hv ht hx hs hy (by omega)).mono fun e w' hd => GX.rd h2 hd (by omega)
theorem glinked (h : GX w0 w zb vc V S T n q p gb cap rb lb cr cl base gB g ts vr rs gr (k + 192)) (hL : (L : Int) < lv V) (ha : (s : Int) < S) (ht : t ∈ ts) (hx : An V S L s 0 ∈ t.row) (hs : t2 ∈ ts) (hy : An V S L s 1 ∈ t2.row) :
    Calls Try.prog 34 #[vTr V S T p, .int .i64 (L : Int), .int .i64 (s : Int)] w (Gd w0 zb vc V S T n q p gb cap rb lb cr cl base gB g ts vr rs gr k (.bool (decide (t.root = t2.root))) w) := by
  obtain ⟨m, h1, h2⟩ := h
  have h96 := h2.pl.n96
  exact (tlinked h2.pl.pg.fm hL ha ht hx hs hy (by omega)).mono fun e w' hd => GX.rd h2 hd (by omega)
theorem glinked_b {bb : Bool} (h : GX w0 w zb vc V S T n q p gb cap rb lb cr cl base gB g ts vr rs gr (k + 192)) (hL : (L : Int) < lv V) (ha : (s : Int) < S) (ht : t ∈ ts) (hx : An V S L s 0 ∈ t.row) (hs : t2 ∈ ts) (hy : An V S L s 1 ∈ t2.row) (hb : decide (t.root = t2.root) = bb) :
    Calls Try.prog 34 #[vTr V S T p, .int .i64 (L : Int), .int .i64 (s : Int)] w (Gd w0 zb vc V S T n q p gb cap rb lb cr cl base gB g ts vr rs gr k (.bool bb) w) := by subst hb; exact glinked h hL ha ht hx hs hy
theorem gsame_b {bb : Bool} (h : GX w0 w zb vc V S T n q p gb cap rb lb cr cl base gB g ts vr rs gr (k + 192)) (hL : (L : Int) < lv V) (hu : (u : Int) < V) (hv : (v : Int) < V) (ht : t ∈ ts) (hx : Xn V L u ∈ t.row) (hs : t2 ∈ ts) (hy : Xn V L v ∈ t2.row) (hb : decide (t.root = t2.root) = bb) :
    Calls Try.prog 13 #[vTr V S T p, .int .i64 (L : Int), .int .i64 (u : Int), .int .i64 (v : Int)] w (Gd w0 zb vc V S T n q p gb cap rb lb cr cl base gB g ts vr rs gr k (.bool bb) w) := by subst hb; exact gsame h hL hu hv ht hx hs hy
theorem gcount (h : GX w0 w zb vc V S T n q p gb cap rb lb cr cl base gB g ts vr rs gr (k + 97)) (hL : (L : Int) < lv V) (hu : (u : Int) < V) (ht : t ∈ ts) (hx : Xn V L u ∈ t.row) :
    Calls Try.prog 33 #[vTr V S T p, .int .i64 (L : Int), .int .i64 (u : Int)] w (Gd w0 zb vc V S T n q p gb cap rb lb cr cl base gB g ts vr rs gr k (.int .i64 (cntV (vxN V) t.row : Int)) w) := by
  obtain ⟨m, h1, h2⟩ := h
  have h96 := h2.pl.n96
  exact (tcount h2.pl.pg.fm hL hu ht hx (by omega)).mono fun e w' hd => GX.rd h2 hd (by omega)
/-- step, as the laws call it. -/
theorem xstep (h : LX w0 w zb vc V S T n q p gb cap rb lb cr cl base gB m g ts vr rs gr) (hm : m ≤ 700000) :
    Calls Try.prog 11 #[.pointer (some ⟨q, 0, none⟩), .agg #[.int .i64 kd, .int .i64 a, .int .i64 b, .int .i64 c, .int .i64 d]] w fun e w' => e = .returned (.bool true) ∧ ∃ g' ts' vr' rs' gr', LX w0 w' zb vc V S T n q p gb cap rb lb cr cl base gB (m + 11000) g' ts' vr' rs' gr' := by
  refine (step_any10 h.pl h.size hm).mono ?_
  rintro e w' ⟨rfl, g', ts', vr', rs', gr', hp, hb⟩
  exact ⟨rfl, g', ts', vr', rs', gr', h.z.below hb h.hz, hp, h.be.trans (hb.mono h.hb), h.hb, h.hz⟩
/-- begun, as the laws call it. -/
theorem xbegun {da : Option Addr} {dl dc : Nat} {vo : Value} {f : Nat → Nat} (hR : Rt V S T) (hD : IsNum w da dl f) (hdl : dl ≤ 60) (v8 : V ≤ 8) (s8 : S ≤ 8) (hz : Blk w zb 27 vc) (hb : Below w0.heap.size w0 w) :
    Calls Try.prog 10 #[.agg #[.int .i64 V, .int .i64 S, .int .i64 T, .slice da dl dc, vo]] w fun e w' => ∃ n q p gb cap rb lb cr cl base gB g ts vr rs gr, e = .returned (.pointer (some ⟨q, 0, none⟩)) ∧ LX w0 w' zb vc V S T n q p gb cap rb lb cr cl base gB 1000 g ts vr rs gr := by
  refine (begun_any10 hR hD hdl v8 s8).mono ?_
  rintro e w' ⟨n, q, p, gb, rb, lb, cr, cl, gB, g, vr, rfl, hp, hb'⟩
  have h96 := hp.n96
  exact ⟨n, q, p, gb, _, rb, lb, cr, cl, _, gB, g, _, vr, _, _, rfl, hz.below hb' hz.lt, hp.more (by omega), hb.trans (hb'.mono hb.size), hb.size, hz.lt⟩
/-- Between two calls of a case. -/
def LpT (w0 : World) (zb : Nat) (vc : Array Value) (V S T : Int) (n q p gb cap rb lb cr cl base : Nat) (gB : Nat → Nat) (ol : Nat) (i : Value) (W : World) : Prop :=
  ∃ k m g ts vr rs gr, k ≤ ol ∧ i = .int .i64 ((k : Nat) : Int) ∧ m ≤ 1000 + 11000 * k ∧ LX w0 W zb vc V S T n q p gb cap rb lb cr cl base gB m g ts vr rs gr
theorem PL.n4 (h : PL w V S T n q p gb cap rb lb cr cl base gB m g ts vr rs gr) : n ≤ 4 := by
  have h1 := h.pg.hn
  have h2 := h.v8
  have l1 : Go.Proofs.Ytahabfjngeicmaa.lv V ≤ 4 := by unfold Go.Proofs.Ytahabfjngeicmaa.lv; split <;> (try split) <;> (try split) <;> (try split) <;> omega
  omega
theorem PL.flat (h : PL w V S T n q p gb cap rb lb cr cl base gB m g ts vr rs gr) (hL : L < n) : (rs L).flatten.length ≤ 96 := by
  have hv := h.lv L hL
  have h3 : (rs L).flatten ⊆ List.range' 1 (nN V S) := fun x hx => by
    obtain ⟨r, hr, hx⟩ := List.mem_flatten.1 hx
    have := hv.node_le h.fi hr hx
    exact List.mem_range'.2 ⟨x - 1, by omega, by omega⟩
  have h4 := hv.nd.length_le_of_subset h3
  have h5 := h.n96
  simp only [List.length_range'] at h4
  omega
/-- Both trees that a slot's arcs are in; one, just if it is linked. -/
theorem Lv.arcs {rows : List (List Nat)} {gr : List (Option (Nat × Nat))} {e : Option (Nat × Nat)} (h : Lv V S L ts rows gr) (hR : Rt V S T) (hL : (L : Int) < lv V) (hF : FI V S g (fun _ => 0) ts) (hs : (s : Int) < S) (he : gr[s]? = some e) : ∃ t ∈ ts, ∃ t2 ∈ ts, An V S L s 0 ∈ t.row ∧ An V S L s 1 ∈ t2.row ∧ decide (t.root = t2.root) = decide (0 ≤ end1 e) := by
  cases e with
  | none =>
    obtain ⟨t, ht, r1⟩ := h.loose s hs he 0 (by decide)
    obtain ⟨t2, ht2, r2⟩ := h.loose s hs he 1 (by decide)
    refine ⟨t, ht, t2, ht2, by rw [r1]; simp, by rw [r2]; simp, ?_⟩
    rw [root_dec hF ht ht2 (fun e => by
      rw [e, r2] at r1
      have := (An_inj hR hL hs (by decide) hs (by decide) (List.cons.inj r1).1).2
      omega)]
    rfl
  | some ab =>
    obtain ⟨a, b⟩ := ab
    obtain ⟨r, E, hr, hT, hm⟩ := h.edge he
    obtain ⟨m0, m1, _, _⟩ := hT.mem hm
    obtain ⟨t, ht, e⟩ := h.has r hr
    refine ⟨t, ht, t, ht, by rw [e]; exact m0, by rw [e]; exact m1, ?_⟩
    rw [decide_eq_true rfl]
    exact (decide_eq_true (Int.natCast_nonneg a)).symm
/-- A cell of a block that isn't the memory's, behind a call on the trees. -/
theorem cell_tree {e o : Nat} {x : Value} {cs : Array Value} (hT : ∃ m, TM w V S T p gb cap m g) (ho : Only p gb w w') (hz : Blk w e 36 cs) (h : w.cell? ⟨e, o, none⟩ = some x) : w'.cell? ⟨e, o, none⟩ = some x := by
  obtain ⟨m, hT⟩ := hT
  rw [hz.cell] at h
  rw [(hz.treap hT ho (by decide) (by decide)).cell]; exact h
end

end Go.Proofs.Ytahabfjngeicmaa
