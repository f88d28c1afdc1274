/- The law's begun. -/
import Derived.Test.YtgafnomfdnbblaaZG
import Derived.Test.YtgafnomfdnbblaaZA
import Derived.Deep.DeepCutAuto

/- The law's begun: what came in, what is made; the loop's plain part. -/
namespace Go.Proofs.Ytgafnomfdnbblaa
open Go.RowKit

set_option maxRecDepth 100000

/-- Numbers that came in. -/
def IsNum (w : World) (a : Option Addr) (len : Nat) (f : Nat → Nat) : Prop :=
  0 < len → ∃ b off, a = some ⟨b, off, none⟩ ∧ ∀ k, k < len → w.cell? ⟨b, off + k, none⟩ = some (.int .u64 (f k : Int)) ∧ f k ≤ 18446744073709551615
/-- A call that came in. -/
structure Op5 where
  kd : Int
  a : Int
  b : Int
  k : Int
  on : Bool
abbrev i64In (z : Int) : Prop := -9223372036854775808 ≤ z ∧ z ≤ 9223372036854775807
def Op5.fit (o : Op5) : Prop := i64In o.a ∧ i64In o.b ∧ i64In o.k
def IsOp5 (w : World) (a : Option Addr) (len : Nat) (f : Nat → Op5) : Prop :=
  0 < len → ∃ b off, a = some ⟨b, off, none⟩ ∧ ∀ k, k < len →
    w.cell? ⟨b, off + k * 5, none⟩ = some (.int .i64 (f k).kd) ∧ w.cell? ⟨b, off + k * 5 + 1, none⟩ = some (.int .i64 (f k).a) ∧ w.cell? ⟨b, off + k * 5 + 2, none⟩ = some (.int .i64 (f k).b) ∧
    w.cell? ⟨b, off + k * 5 + 3, none⟩ = some (.int .i64 (f k).k) ∧ w.cell? ⟨b, off + k * 5 + 4, none⟩ = some (.bool (f k).on) ∧ (f k).fit
theorem IsNum.below {w w' : World} {a : Option Addr} {len : Nat} {f : Nat → Nat} (h : IsNum w a len f) (hb : Below w.heap.size w w') : IsNum w' a len f := fun h0 => by
  obtain ⟨b, off, e, hc⟩ := h h0
  exact ⟨b, off, e, fun k hk => ⟨cell_later hb (hc k hk).1, (hc k hk).2⟩⟩
theorem IsOp5.below {w w' : World} {a : Option Addr} {len : Nat} {f : Nat → Op5} (h : IsOp5 w a len f) (hb : Below w.heap.size w w') : IsOp5 w' a len f := fun h0 => by
  obtain ⟨b, off, e, hc⟩ := h h0
  exact ⟨b, off, e, fun k hk => have c := hc k hk; ⟨cell_later hb c.1, cell_later hb c.2.1, cell_later hb c.2.2.1, cell_later hb c.2.2.2.1, cell_later hb c.2.2.2.2.1, c.2.2.2.2.2⟩⟩

theorem info_b : (Try.prog.info? 4).map (fun i => (i.zero, i.size, i.bytes)) = some (some (.bool false), 1, 1) := by kernel_rfl
theorem made_u (n : Nat) (hn : n ≤ 100000) (w : World) : (Instr.makeSlice 24 (.int .i64 ((n : Int) + 1)) (.int .i64 ((n : Int) + 1))).run Try.prog w = .ok (.slice (some ⟨w.heap.size, 0, none⟩) (n + 1) (n + 1)) (w.alloc (.cells (madeCells #[.int .u64 0] ((n + 1) * 1)) 73)) := by
  obtain ⟨i0, hi0, hz0, hz1, hz2⟩ := info_parts info_u64
  have h := run_make (P := Try.prog) w 24 73 i0 (.int .u64 0) Try.underlying24 hi0 hz0 .i64 .i64 ((n : Int) + 1) ((n : Int) + 1) (by omega) (Int.le_refl _) (by rw [hz2]; omega) (by omega)
  rw [show ((n : Int) + 1).toNat = n + 1 by omega, hz1] at h
  exact h
theorem made_i (n : Nat) (hn : n ≤ 100000) (w : World) : (Instr.makeSlice 44 (.int .i64 ((n : Int) + 1)) (.int .i64 ((n : Int) + 1))).run Try.prog w = .ok (.slice (some ⟨w.heap.size, 0, none⟩) (n + 1) (n + 1)) (w.alloc (.cells (madeCells #[.int .i64 0] ((n + 1) * 1)) 3)) := by
  obtain ⟨i0, hi0, hz0, hz1, hz2⟩ := info_parts info_i
  have h := run_make (P := Try.prog) w 44 3 i0 (.int .i64 0) Try.underlying44 hi0 hz0 .i64 .i64 ((n : Int) + 1) ((n : Int) + 1) (by omega) (Int.le_refl _) (by rw [hz2]; omega) (by omega)
  rw [show ((n : Int) + 1).toNat = n + 1 by omega, hz1] at h
  exact h
theorem made_b (n : Nat) (hn : n ≤ 100000) (w : World) : (Instr.makeSlice 45 (.int .i64 ((n : Int) + 1)) (.int .i64 ((n : Int) + 1))).run Try.prog w = .ok (.slice (some ⟨w.heap.size, 0, none⟩) (n + 1) (n + 1)) (w.alloc (.cells (madeCells #[.bool false] ((n + 1) * 1)) 4)) := by
  obtain ⟨i0, hi0, hz0, hz1, hz2⟩ := info_parts info_b
  have h := run_make (P := Try.prog) w 45 4 i0 (.bool false) Try.underlying45 hi0 hz0 .i64 .i64 ((n : Int) + 1) ((n : Int) + 1) (by omega) (Int.le_refl _) (by rw [hz2]; omega) (by omega)
  rw [show ((n : Int) + 1).toNat = n + 1 by omega, hz1] at h
  exact h
theorem made_at (v : Value) (n k : Nat) (hk : k < n) : (madeCells #[v] n)[k]? = some v := by
  unfold madeCells
  simp only [Array.getElem?_map, Array.getElem?_range, if_pos hk, Option.map_some]
  simp [Nat.mod_one]
theorem AP.made (w : World) (n : Nat) : AP (w.alloc (.cells (madeCells #[.int .u64 0] ((n + 1) * 1)) 73)) w.heap.size n (fun _ => 0) := ⟨_, Blk.new _ _ _, fun k hk => made_at _ _ _ (by omega)⟩
theorem AM.made (w : World) (n : Nat) : AM (w.alloc (.cells (madeCells #[.int .i64 0] ((n + 1) * 1)) 3)) w.heap.size n (fun _ => 0) := ⟨_, Blk.new _ _ _, by rw [size_madeCells]; omega, fun k hk => made_at _ _ _ (by omega)⟩
theorem AV.made (w : World) (n : Nat) : AV (w.alloc (.cells (madeCells #[.bool false] ((n + 1) * 1)) 4)) w.heap.size n (fun _ => false) := ⟨_, Blk.new _ _ _, fun k hk => made_at _ _ _ (by omega)⟩

/-- A node alone. -/
def sgl (x : Nat) : Tp := .node .nil x .nil
theorem sgl_row (x : Nat) : (sgl x).row = [x] := rfl
/-- The first nodes, each alone. -/
def sing (k : Nat) : List Tp := (List.range' 1 k).map sgl
theorem sing_succ (k : Nat) : sing (k + 1) = sing k ++ [sgl (k + 1)] := by
  unfold sing
  rw [List.range'_concat, List.map_append]
  simp [Nat.add_comm]
theorem sing_flat (k : Nat) : (sing k).flatMap Tp.row = List.range' 1 k := by
  unfold sing
  rw [List.flatMap_map]
  have : (fun x => (sgl x).row) = fun x => [x] := rfl
  rw [this]
  induction (List.range' 1 k) with
  | nil => rfl
  | cons x l ih => rw [List.flatMap_cons, ih]; rfl
theorem sing_mem {k : Nat} {t : Tp} (h : t ∈ sing k) : ∃ x, 1 ≤ x ∧ x ≤ k ∧ t = sgl x := by
  unfold sing at h
  obtain ⟨x, hx, rfl⟩ := List.mem_map.1 h
  obtain ⟨i, hi, rfl⟩ := List.mem_range'.1 hx
  exact ⟨_, by omega, by omega, rfl⟩
theorem sing_len (k : Nat) : (sing k).length = k := by simp [sing]

section
variable {V S T : Int} {g : Mg9} {w w' : World} {p gb cap m : Nat} {mk : Nat → Nat} {vx : Nat → Bool}
theorem aloneG_other {x y : Nat} (j : Nat) (h : y ≠ x) : aloneG vx g x y j = g y j := by
  unfold aloneG; rw [reckG_other _ _ _ _ h, setP_other _ _ _ h, up2_node _ _ _ _ h, up2_node _ _ _ _ h]
theorem aloneG_pri {x y : Nat} : aloneG vx g x y 5 = g y 5 := by
  unfold aloneG; rw [reckG_field _ _ _ _ _ (by decide), setP_field _ _ _ _ (by decide), up2_field _ _ _ _ (by decide), up2_field _ _ _ _ (by decide)]
theorem alone_stands {x : Nat} (hx : x ≠ 0) (h0 : ∀ k, g 0 k = 0) : Stands vx (fun _ => 0) (aloneG vx g x) (sgl x) := by
  have g0 : ∀ k, setP (up2 (up2 g x 3 0) x 4 0) x 0 0 k = 0 := fun k => by rw [setP_other _ _ _ (Ne.symm hx), up2_node _ _ _ _ (Ne.symm hx), up2_node _ _ _ _ (Ne.symm hx)]; exact h0 k
  refine ⟨reck_loose (mk := fun _ => 0) (fun _ => Nat.zero_lt_succ 3) g0 (l := .nil) (r := .nil) (by simp [Tp.row]) (by simp [Tp.size, Tp.row]) ?_ ?_ (fun h => absurd rfl h) (fun h => absurd rfl h) trivial trivial, fun _ => ?_⟩
  · rw [setP_field _ _ _ _ (by decide), up2_field _ _ _ _ (by decide), up2_same]; rfl
  · rw [setP_field _ _ _ _ (by decide), up2_same]; rfl
  · show aloneG vx g x x 2 = 0
    unfold aloneG
    rw [reckG_field _ _ _ _ _ (by decide), setP_same _ _ hx]
/-- A new memory's nodes. -/
theorem TM.new (hR : Rt V S T) {cap : Nat} (A : Ar w p gb (cellsN V S T) cap zeroF zeroF) : TM w V S T p gb cap 0 (fun _ _ => 0) :=
  ⟨hR, zeroF, zeroF, A, fun _ => ⟨Int.le_refl _, Int.le_refl _⟩, ⟨fun _ => rfl, fun _ _ _ _ _ _ => rfl, fun _ _ _ _ => rfl, fun _ _ _ _ => ⟨by rfl, by rfl⟩, fun _ _ => ⟨Nat.zero_le _, Nat.zero_le _, Nat.zero_le _⟩⟩⟩
/-- A node's priority is stored by the law. -/
theorem lstore5 (A : TM w V S T p gb cap m g) {x v : Nat} (h1 : 1 ≤ x) (h2 : x ≤ nN V S) (hv : v ≤ 18446744073709551615) (hm : m ≤ 1000000) :
    Calls Try.prog 32 #[.pointer (some ⟨p, 0, none⟩), .int .i64 (cN V S T x 5 : Int), .int .u64 (v : Int)] w (Did V S T p gb cap (m + 1) (up2 g x 5 v) (.int .i64 0) w) := by
  obtain ⟨c, f, Aa, C, r⟩ := A.ar
  refine (store_yes Aa (cN_lt A.hR h1 h2 (by omega)) (v := (v : Int)) (by omega) (by omega) C hm).mono ?_
  rintro e w' ⟨rfl, A1, O1⟩
  exact ⟨rfl, ⟨A.hR, _, _, A1, C.upd 1, r.store A.hR h1 (by omega) (by omega) (fun h => by omega)⟩, O1⟩
theorem cells_small (hR : Rt V S T) : cellsN V S T ≤ 16384 ∧ ((cellsN V S T : Nat) : Int) = cn V S T := by
  have z := sizes hR
  have a1 := z.vn1; have a2 := z.vn2; have a3 := z.pr1; have a4 := z.pr2; have a5 := z.nd1; have a6 := z.nd2
  have b1 := hR.s1; have b2 := hR.s2; have b3 := hR.t1; have b4 := hR.t2
  unfold cellsN cn
  omega
end

end Go.Proofs.Ytgafnomfdnbblaa

/- The law's begun. Printed by wip/tools/trqk.py. -/
namespace Go.Proofs.Ytgafnomfdnbblaa
open Go.RowKit

set_option maxRecDepth 100000

/-- begun's variables. -/
structure BG (W : World) (zb l3 q fb : Nat) (V S T : Int) (p n pb cp mb cm vb cv : Nat) (da : Option Addr) (dl dc : Nat) (vo vr : Value) : Prop where
  z : Blk W zb 27 #[.int .i64 V, .int .i64 S, .int .i64 T, .slice da dl dc, vo]
  l : Blk W l3 23 #[.int .i64 V, .int .i64 S, .int .i64 T]
  q : Blk W q 49 #[.int .i64 V, .int .i64 S, .int .i64 T, .pointer (some ⟨p, 0, none⟩), .int .i64 V, .int .i64 S, .int .i64 T, .iface 71 (pmV p), .int .i64 1, .int .i64 0, .slice none 0 0, .slice none 0 0, .slice none 0 0, .slice none 0 0]
  f : Blk W fb 47 #[vr, .slice (some ⟨pb, 0, none⟩) (n + 1) cp, .slice (some ⟨mb, 0, none⟩) (n + 1) cm, .slice (some ⟨vb, 0, none⟩) (n + 1) cv]
/-- .. and all that is there, in the midst of it. -/
structure BS (w0 W : World) (zb l3 q fb : Nat) (V S T : Int) (p gb cap pb cp mb cm vb cv : Nat) (da : Option Addr) (dl dc : Nat) (vo : Value) (m : Nat) (g : Mg9) (P : Nat → Nat) (vx : Nat → Bool) (vr : Value) (vs : List Value) (ts : List Tp) : Prop where
  bg : BG W zb l3 q fb V S T p (nN V S) pb cp mb cm vb cv da dl dc vo vr
  tm : TM W V S T p gb cap m g
  fs : FS W pb mb vb (nN V S) P (fun _ => 0) vx
  rv : RowV W w0.heap.size vr vs
  ro : RowsOk W mb vs ts
  be : Below w0.heap.size w0 W
/-- What doesn't turn. -/
structure BC (w0 : World) (q fb p gb pb mb vb : Nat) : Prop where
  npg : pb ≠ gb
  q : w0.heap.size ≤ q
  f : w0.heap.size ≤ fb
  p : w0.heap.size ≤ p
  g : w0.heap.size ≤ gb
  pb : w0.heap.size ≤ pb
  m : w0.heap.size ≤ mb
  v : w0.heap.size ≤ vb
/-- .. beside a priority. -/
structure BP (W : World) (zb l3 q fb : Nat) (V S T : Int) (p n pb cp mb cm vb cv : Nat) (da : Option Addr) (dl dc : Nat) (vo vr : Value) (x pr : Nat) : Prop where
  bg : BG W zb l3 q fb V S T p n pb cp mb cm vb cv da dl dc vo vr
  c : ∃ zs, Blk W pb 73 zs ∧ zs[x]? = some (.int .u64 (pr : Int))
section
variable {w w' W W' w0 : World} {V S T : Int} {zb l3 q p gb cap m m' pb mb vb cp cm cv fb dl dc n x pr : Nat} {da : Option Addr} {vo vr vr' : Value} {g g' : Mg9} {P P' : Nat → Nat} {vx vx' : Nat → Bool} {vs vs' : List Value} {ts ts' : List Tp}
theorem BG.below (h : BG w zb l3 q fb V S T p n pb cp mb cm vb cv da dl dc vo vr) (hb : Below w.heap.size w w') : BG w' zb l3 q fb V S T p n pb cp mb cm vb cv da dl dc vo vr := ⟨h.z.below hb h.z.lt, h.l.below hb h.l.lt, h.q.below hb h.q.lt, h.f.below hb h.f.lt⟩
theorem BG.only (h : BG w zb l3 q fb V S T p n pb cp mb cm vb cv da dl dc vo vr) (A : TM w V S T p gb cap m g) (ho : Only p gb w w') : BG w' zb l3 q fb V S T p n pb cp mb cm vb cv da dl dc vo vr := ⟨h.z.treap A ho (by decide) (by decide), h.l.treap A ho (by decide) (by decide), h.q.treap A ho (by decide) (by decide), h.f.treap A ho (by decide) (by decide)⟩
theorem BG.cells (h : BG W zb l3 q fb V S T p n pb cp mb cm vb cv da dl dc vo vr) : W.cell? ⟨zb, 0, none⟩ = some (.int .i64 V) ∧ W.cell? ⟨zb, 1, none⟩ = some (.int .i64 S) ∧ W.cell? ⟨zb, 2, none⟩ = some (.int .i64 T) ∧ W.cell? ⟨zb, 3, none⟩ = some (.slice da dl dc) ∧ W.cell? ⟨l3, 0, none⟩ = some (.int .i64 V) ∧ W.cell? ⟨l3, 1, none⟩ = some (.int .i64 S) ∧ W.cell? ⟨l3, 2, none⟩ = some (.int .i64 T) ∧
    W.cell? ⟨q, 4, none⟩ = some (.int .i64 V) ∧ W.cell? ⟨q, 5, none⟩ = some (.int .i64 S) ∧ W.cell? ⟨q, 6, none⟩ = some (.int .i64 T) ∧ W.cell? ⟨q, 7, none⟩ = some (.iface 71 (pmV p)) ∧ W.cell? ⟨q, 8, none⟩ = some (.int .i64 1) ∧ W.cell? ⟨q, 9, none⟩ = some (.int .i64 0) ∧
    W.cell? ⟨fb, 0, none⟩ = some vr ∧ W.cell? ⟨fb, 1, none⟩ = some (.slice (some ⟨pb, 0, none⟩) (n + 1) cp) ∧ W.cell? ⟨fb, 2, none⟩ = some (.slice (some ⟨mb, 0, none⟩) (n + 1) cm) ∧ W.cell? ⟨fb, 3, none⟩ = some (.slice (some ⟨vb, 0, none⟩) (n + 1) cv) :=
  ⟨h.z.cell 0, h.z.cell 1, h.z.cell 2, h.z.cell 3, h.l.cell 0, h.l.cell 1, h.l.cell 2, h.q.cell 4, h.q.cell 5, h.q.cell 6, h.q.cell 7, h.q.cell 8, h.q.cell 9, h.f.cell 0, h.f.cell 1, h.f.cell 2, h.f.cell 3⟩
theorem BG.far {ty : TypeId} {cs : Array Value} {b i : Nat} (h : BG w zb l3 q fb V S T p n pb cp mb cm vb cv da dl dc vo vr) (hz : Blk w b ty cs) (h1 : 27 ≠ ty) (h2 : 23 ≠ ty) (h3 : 49 ≠ ty) (h4 : 47 ≠ ty) (u : Value) : BG (w.setCell ⟨b, i, none⟩ u) zb l3 q fb V S T p n pb cp mb cm vb cv da dl dc vo vr :=
  ⟨Blk.far (p := ⟨b, i, none⟩) h.z (Blk.ne_ h.z hz h1) u, Blk.far (p := ⟨b, i, none⟩) h.l (Blk.ne_ h.l hz h2) u, Blk.far (p := ⟨b, i, none⟩) h.q (Blk.ne_ h.q hz h3) u, Blk.far (p := ⟨b, i, none⟩) h.f (Blk.ne_ h.f hz h4) u⟩
theorem BP.below (h : BP w zb l3 q fb V S T p n pb cp mb cm vb cv da dl dc vo vr x pr) (hb : Below w.heap.size w w') : BP w' zb l3 q fb V S T p n pb cp mb cm vb cv da dl dc vo vr x pr := by
  obtain ⟨h1, zs, hz, he⟩ := h
  exact ⟨h1.below hb, zs, hz.below hb hz.lt, he⟩
theorem BP.drew (h : BP w zb l3 q fb V S T p n pb cp mb cm vb cv da dl dc vo vr x pr) : BP w.drew zb l3 q fb V S T p n pb cp mb cm vb cv da dl dc vo vr x pr := h.below (Below.refl _ _).drew
theorem BP.only (h : BP w zb l3 q fb V S T p n pb cp mb cm vb cv da dl dc vo vr x pr) (hn : pb ≠ gb) (A : TM w V S T p gb cap m g) (ho : Only p gb w w') : BP w' zb l3 q fb V S T p n pb cp mb cm vb cv da dl dc vo vr x pr := by
  obtain ⟨h1, zs, hz, he⟩ := h
  obtain ⟨⟨_, h3⟩, _⟩ := A.blk
  exact ⟨h1.only A ho, zs, hz.only ho (hz.ne_ h3 (by decide)) hn, he⟩
theorem bp_rule (zb l3 q fb : Nat) (V S T : Int) (p n pb cp mb cm vb cv : Nat) (da : Option Addr) (dl dc : Nat) (vo vr : Value) (x pr : Nat) : ∀ W : World, BP W zb l3 q fb V S T p n pb cp mb cm vb cv da dl dc vo vr x pr → W.cell? ⟨zb, 0, none⟩ = some (.int .i64 V) ∧ W.cell? ⟨zb, 1, none⟩ = some (.int .i64 S) ∧ W.cell? ⟨zb, 2, none⟩ = some (.int .i64 T) ∧ W.cell? ⟨zb, 3, none⟩ = some (.slice da dl dc) ∧ W.cell? ⟨l3, 0, none⟩ = some (.int .i64 V) ∧ W.cell? ⟨l3, 1, none⟩ = some (.int .i64 S) ∧ W.cell? ⟨l3, 2, none⟩ = some (.int .i64 T) ∧
    W.cell? ⟨fb, 1, none⟩ = some (.slice (some ⟨pb, 0, none⟩) (n + 1) cp) ∧ W.cell? ⟨pb, x, none⟩ = some (.int .u64 (pr : Int)) := fun W h => by
  obtain ⟨h1, zs, hz, he⟩ := h
  exact ⟨h1.z.cell 0, h1.z.cell 1, h1.z.cell 2, h1.z.cell 3, h1.l.cell 0, h1.l.cell 1, h1.l.cell 2, h1.f.cell 1, (hz.cell x).trans he⟩
theorem BS.below (h : BS w0 w zb l3 q fb V S T p gb cap pb cp mb cm vb cv da dl dc vo m g P vx vr vs ts) (hb : Below w.heap.size w w') : BS w0 w' zb l3 q fb V S T p gb cap pb cp mb cm vb cv da dl dc vo m g P vx vr vs ts :=
  ⟨h.bg.below hb, h.tm.below hb, h.fs.below hb, h.rv.below hb, h.ro.below hb, h.be.trans (hb.mono h.be.size)⟩
theorem BS.drew (h : BS w0 w zb l3 q fb V S T p gb cap pb cp mb cm vb cv da dl dc vo m g P vx vr vs ts) : BS w0 w.drew zb l3 q fb V S T p gb cap pb cp mb cm vb cv da dl dc vo m g P vx vr vs ts := h.below (Below.refl _ _).drew
/-- Behind a call on its trees. -/
theorem BS.only (h : BS w0 w zb l3 q fb V S T p gb cap pb cp mb cm vb cv da dl dc vo m g P vx vr vs ts) (c : BC w0 q fb p gb pb mb vb) (A : TM w' V S T p gb cap m' g') (ho : Only p gb w w') : BS w0 w' zb l3 q fb V S T p gb cap pb cp mb cm vb cv da dl dc vo m' g' P vx vr vs ts := by
  obtain ⟨⟨_, h3⟩, ⟨_, h4⟩⟩ := h.tm.blk
  refine ⟨h.bg.only h.tm ho, A, ?_, h.rv.only ho (h.rv.ne_blk h3 (by decide)) (h.rv.ne_blk h4 (by decide)), h.ro.only ho h3 h4 (by decide) (by decide), Only.below h.be ho h.be.size c.p c.g⟩
  obtain ⟨⟨z1, q1, e1⟩, ⟨z2, q2, e2⟩, ⟨z3, q3, e3⟩⟩ := h.fs
  exact ⟨⟨z1, q1.only ho (q1.ne_ h3 (by decide)) c.npg, e1⟩, ⟨z2, q2.treap h.tm ho (by decide) (by decide), e2⟩, ⟨z3, q3.treap h.tm ho (by decide) (by decide), e3⟩⟩
/-- A priority is told. -/
theorem BS.pri (h : BS w0 w zb l3 q fb V S T p gb cap pb cp mb cm vb cv da dl dc vo m g P vx vr vs ts) (c : BC w0 q fb p gb pb mb vb) (hx : x ≤ nN V S) {v : Nat} : BS w0 (w.setCell ⟨pb, x, none⟩ (.int .u64 (v : Int))) zb l3 q fb V S T p gb cap pb cp mb cm vb cv da dl dc vo m g (fun y => if y = x then v else P y) vx vr vs ts := by
  obtain ⟨c1, f1, Aa, C, r⟩ := h.tm.ar
  obtain ⟨⟨z1, b3, e1⟩, ⟨z2, b4, d2, e2⟩, ⟨z3, b5, e3⟩⟩ := h.fs
  obtain ⟨⟨_, h3⟩, _⟩ := h.tm.blk
  have ho := only_set w pb x (.int .u64 (v : Int))
  have hsz : x < z1.size := (Array.getElem?_eq_some_iff.1 (e1 x hx)).1
  refine ⟨h.bg.far b3 (by decide) (by decide) (by decide) (by decide) _, ⟨h.tm.hR, c1, f1, Aa.q_far (b3.ne_ h3 (by decide)) c.npg _, C, r⟩, ⟨⟨_, b3.set_ x _, fun k hk => ?_⟩, ⟨z2, b4.only ho (Blk.ne_ b4 b3 (by decide)) (Blk.ne_ b4 b3 (by decide)), d2, e2⟩, ⟨z3, b5.only ho (Blk.ne_ b5 b3 (by decide)) (Blk.ne_ b5 b3 (by decide)), e3⟩⟩,
    h.rv.only ho (h.rv.ne_blk b3 (by decide)) (h.rv.ne_blk b3 (by decide)), h.ro.only ho b3 b3 (by decide) (by decide), h.be.setCell c.pb _⟩
  by_cases hkx : k = x
  · subst hkx
    rw [Array.getElem?_setIfInBounds_self_of_lt hsz]
    show _ = some (Value.int .u64 (((if k = k then v else P k : Nat)) : Int))
    rw [if_pos rfl]
  · rw [Array.getElem?_setIfInBounds_ne (by omega)]
    show _ = some (Value.int .u64 (((if k = x then v else P k : Nat)) : Int))
    rw [if_neg hkx]; exact e1 k hk
/-- Whether a node is a vertex is told. -/
theorem BS.vtx (h : BS w0 w zb l3 q fb V S T p gb cap pb cp mb cm vb cv da dl dc vo m g P vx vr vs ts) (c : BC w0 q fb p gb pb mb vb) (hx : x ≤ nN V S) {v : Bool} : BS w0 (w.setCell ⟨vb, x, none⟩ (.bool v)) zb l3 q fb V S T p gb cap pb cp mb cm vb cv da dl dc vo m g P (fun y => if y = x then v else vx y) vr vs ts := by
  obtain ⟨⟨z1, b3, e1⟩, ⟨z2, b4, d2, e2⟩, ⟨z3, b5, e3⟩⟩ := h.fs
  have ho := only_set w vb x (.bool v)
  have hsz : x < z3.size := (Array.getElem?_eq_some_iff.1 (e3 x hx)).1
  refine ⟨h.bg.far b5 (by decide) (by decide) (by decide) (by decide) _, h.tm.far b5 (by decide) (by decide) _, ⟨⟨z1, b3.only ho (Blk.ne_ b3 b5 (by decide)) (Blk.ne_ b3 b5 (by decide)), e1⟩, ⟨z2, b4.only ho (Blk.ne_ b4 b5 (by decide)) (Blk.ne_ b4 b5 (by decide)), d2, e2⟩, ⟨_, b5.set_ x _, fun k hk => ?_⟩⟩,
    h.rv.only ho (h.rv.ne_blk b5 (by decide)) (h.rv.ne_blk b5 (by decide)), h.ro.only ho b5 b5 (by decide) (by decide), h.be.setCell c.v _⟩
  by_cases hkx : k = x
  · subst hkx
    rw [Array.getElem?_setIfInBounds_self_of_lt hsz]
    show _ = some (Value.bool (if k = k then v else vx k))
    rw [if_pos rfl]
  · rw [Array.getElem?_setIfInBounds_ne (by omega)]
    show _ = some (Value.bool (if k = x then v else vx k))
    rw [if_neg hkx]; exact e3 k hk
/-- A row is appended. -/
theorem BS.append (h : BS w0 w zb l3 q fb V S T p gb cap pb cp mb cm vb cv da dl dc vo m g P vx vr vs ts) (c : BC w0 q fb p gb pb mb vb) {t : Tp} {u v' : Value} (hg : w.grownBy w' vr.ownBlock) (hv : RowV w' w0.heap.size v' (vs ++ [u])) (hu : LI w u t.row) (hb : bk u ≠ some mb) : BS w0 (w'.setCell ⟨fb, 0, none⟩ v') zb l3 q fb V S T p gb cap pb cp mb cm vb cv da dl dc vo m g P vx v' (vs ++ [u]) (ts ++ [t]) := by
  have rv := h.rv
  obtain ⟨hz, hl, hq, hf⟩ := h.bg
  obtain ⟨⟨_, b1⟩, ⟨_, b2⟩⟩ := h.tm.blk
  obtain ⟨⟨z1, b3, e1⟩, ⟨z2, b4, d2, e2⟩, ⟨z3, b5, e3⟩⟩ := h.fs
  have hf' := hf.grown hg (rv.ne_blk hf (by decide))
  have hz' := hz.grown hg (rv.ne_blk hz (by decide))
  have hl' := hl.grown hg (rv.ne_blk hl (by decide))
  have hq' := hq.grown hg (rv.ne_blk hq (by decide))
  have b3' := b3.grown hg (rv.ne_blk b3 (by decide))
  have b4' := b4.grown hg (rv.ne_blk b4 (by decide))
  have b5' := b5.grown hg (rv.ne_blk b5 (by decide))
  have ho := only_set w' fb 0 v'
  have hro := (h.ro.keep fun x t _ _ hx _ => hx.grownBy_ hg (rv.ne_li hx)).snoc (hu.grownBy_ hg (rv.ne_li hu)) hb
  refine ⟨⟨Blk.far (p := ⟨fb, 0, none⟩) hz' (Blk.ne_ hz' hf' (by decide)) _, Blk.far (p := ⟨fb, 0, none⟩) hl' (Blk.ne_ hl' hf' (by decide)) _, Blk.far (p := ⟨fb, 0, none⟩) hq' (Blk.ne_ hq' hf' (by decide)) _, hf'.set_ 0 v'⟩, (h.tm.grown hg (rv.ne_blk b1 (by decide)) (rv.ne_blk b2 (by decide))).far hf' (by decide) (by decide) _,
    ⟨⟨z1, b3'.only ho (Blk.ne_ b3' hf' (by decide)) (Blk.ne_ b3' hf' (by decide)), e1⟩, ⟨z2, b4'.only ho (Blk.ne_ b4' hf' (by decide)) (Blk.ne_ b4' hf' (by decide)), d2, e2⟩, ⟨z3, b5'.only ho (Blk.ne_ b5' hf' (by decide)) (Blk.ne_ b5' hf' (by decide)), e3⟩⟩,
    hv.only ho (hv.ne_blk hf' (by decide)) (hv.ne_blk hf' (by decide)), hro.only ho hf' hf' (by decide) (by decide), (h.be.grown hg h.be.size (fun r hr => (rv.lt r hr).1)).setCell c.f _⟩
theorem BS.bp (h : BS w0 w zb l3 q fb V S T p gb cap pb cp mb cm vb cv da dl dc vo m g P vx vr vs ts) (hx : x ≤ nN V S) {v : Nat} (e : P x = v) : BP w zb l3 q fb V S T p (nN V S) pb cp mb cm vb cv da dl dc vo vr x v := by
  obtain ⟨z1, b3, e1⟩ := h.fs.p
  exact ⟨h.bg, z1, b3, e ▸ e1 x hx⟩
theorem BS.more (h : BS w0 w zb l3 q fb V S T p gb cap pb cp mb cm vb cv da dl dc vo m g P vx vr vs ts) (hm : m ≤ m') : BS w0 w zb l3 q fb V S T p gb cap pb cp mb cm vb cv da dl dc vo m' g P vx vr vs ts := ⟨h.bg, h.tm.more hm, h.fs, h.rv, h.ro, h.be⟩
theorem BS.eqs (h : BS w0 w zb l3 q fb V S T p gb cap pb cp mb cm vb cv da dl dc vo m g P vx vr vs ts) (h1 : ∀ y, P' y = P y) (h2 : ∀ y, vx' y = vx y) (h3 : ts' = ts) : BS w0 w zb l3 q fb V S T p gb cap pb cp mb cm vb cv da dl dc vo m g P' vx' vr vs ts' := by
  obtain rfl : P' = P := funext h1
  obtain rfl : vx' = vx := funext h2
  subst h3; exact h

theorem lnodes (hR : Rt V S T) (w : World) : Calls Try.prog 30 #[vL V S T] w fun e w' => e = .returned (.int .i64 (nN V S : Int)) ∧ Below w.heap.size w w' := by
  rw [nN_int hR]; exact nodes_yes V S T hR w
theorem lnew (hR : Rt V S T) (w : World) : Calls Try.prog 27 #[.int .i64 (cn V S T)] w fun e w' => e = .returned (.tuple #[.pointer (some ⟨w.heap.size + 1, 0, none⟩), .int .i64 0]) ∧ Ar w' (w.heap.size + 1) w.heap.size (cellsN V S T) (cellsN V S T) zeroF zeroF ∧ Below w.heap.size w w' := by
  rw [← (cells_small hR).2]; exact new_yes _ w (cells_small hR).1

/-- A node's priority. -/
def priF (dl : Nat) (f : Nat → Nat) (x : Nat) : Nat := if dl = 0 then 0 else f (x % dl)
def BgRel (w0 : World) (zb l3 q fb : Nat) (V S T : Int) (p gb cap pb cp mb cm vb cv : Nat) (da : Option Addr) (dl dc : Nat) (vo : Value) (f : Nat → Nat) (i : Value) (W : World) : Prop :=
  ∃ x g vr vs, 1 ≤ x ∧ x ≤ nN V S + 1 ∧ i = .int .i64 ((x : Nat) : Int) ∧ BS w0 W zb l3 q fb V S T p gb cap pb cp mb cm vb cv da dl dc vo (10 * (x - 1)) g (fun z => g z 5) (fun z => decide (z < x) && vx0 V z) vr vs (sing (x - 1)) ∧
    (∀ y, 1 ≤ y → y < x → Stands (vxN V) (fun _ => 0) g (sgl y)) ∧ (∀ y, 1 ≤ y → y < x → g y 5 = priF dl f y) ∧ ∀ y, x ≤ y → g y 5 = 0
/-- What begun leaves. -/
def BegunD (V S T : Int) (pri : Nat → Nat) (w : World) (e : Ending) (w' : World) : Prop :=
  ∃ q p gb cap pb mb vb cp cm cv g vr vs, e = .returned (.pointer (some ⟨q, 0, none⟩)) ∧ KOk ⟨V, S, T, q, p, gb, cap, pb, mb, vb, cp, cm, cv, w.heap.size⟩ ∧ PlayM w' ⟨V, S, T, q, p, gb, cap, pb, mb, vb, cp, cm, cv, w.heap.size⟩ (10 * nN V S) g (fun _ => 0) (sing (nN V S)) vr vs ∧ FI V S g (fun _ => 0) (sing (nN V S)) ∧ Below w.heap.size w w' ∧ ∀ x, 1 ≤ x → x ≤ nN V S → g x 5 = pri x
theorem sing_fi (hs : ∀ y, 1 ≤ y → y < nN V S + 1 → Stands (vxN V) (fun _ => 0) g (sgl y)) : FI V S g (fun _ => 0) (sing (nN V S)) := by
  refine ⟨fun _ => by decide, fun t ht => ?_, ?_, fun x => ?_⟩
  · obtain ⟨x, h1, h2, rfl⟩ := sing_mem ht
    exact ⟨hs x h1 (by omega), ⟨(fun y hy => by cases hy), (fun y hy => by cases hy), trivial, trivial⟩, (by unfold sgl; exact fun e => nomatch e)⟩
  · rw [sing_flat]; exact List.nodup_range'
  · rw [← List.mem_flatMap, sing_flat, List.mem_range'_1]; omega
end

end Go.Proofs.Ytgafnomfdnbblaa

/- The law's begun: its walk. Printed by wip/tools/trql.py. -/
namespace Go.Proofs.Ytgafnomfdnbblaa
open Go.RowKit

set_option maxRecDepth 100000

theorem al4 (W : World) (a b c d : Obj) : (((((W.alloc a).alloc b).alloc c).alloc d).heap[W.heap.size]? = some a ∧ ((((W.alloc a).alloc b).alloc c).alloc d).heap[W.heap.size + 1]? = some b ∧ ((((W.alloc a).alloc b).alloc c).alloc d).heap[W.heap.size + 1 + 1]? = some c ∧ ((((W.alloc a).alloc b).alloc c).alloc d).heap[W.heap.size + 1 + 1 + 1]? = some d) ∧ Below W.heap.size W ((((W.alloc a).alloc b).alloc c).alloc d) := by
  refine ⟨?_, (((((Below.refl _ _).alloc (Nat.le_refl _) a).alloc (by simp) b).alloc (by simp only [World.size_alloc]; omega) c).alloc (by simp only [World.size_alloc]; omega) d)⟩
  have n1 := World.alloc_heap_new W a
  have n2 := World.alloc_heap_new (W.alloc a) b
  have n3 := World.alloc_heap_new ((W.alloc a).alloc b) c
  have n4 := World.alloc_heap_new (((W.alloc a).alloc b).alloc c) d
  simp only [World.size_alloc] at n2 n3 n4
  exact ⟨(Below.heap_alloc _ d _ (by simp only [World.size_alloc]; omega)).trans ((Below.heap_alloc _ c _ (by simp only [World.size_alloc]; omega)).trans ((Below.heap_alloc _ b _ (by simp)).trans n1)), (Below.heap_alloc _ d _ (by simp only [World.size_alloc]; omega)).trans ((Below.heap_alloc _ c _ (by simp)).trans n2), (Below.heap_alloc _ d _ (by simp)).trans n3, n4⟩
theorem LI.one (w : World) (x : Nat) : LI (w.alloc (.cells #[.int .i64 (x : Int)] 3)) (.slice (some ⟨w.heap.size, 0, none⟩) 1 1) [x] :=
  by
  refine ⟨_, 1, rfl, by simp [maxLen], by simp, (fun e => by cases e), fun _ => ⟨_, 0, _, rfl, Blk.new _ _ _, by simp, fun k y hk => ?_⟩⟩
  cases k with
  | zero => simp at hk; subst hk; rfl
  | succ k => simp at hk
theorem bk_ne {a mb : Nat} (h : mb < a) : bk (.slice (some ⟨a, 0, none⟩) 1 1) ≠ some mb := fun e => by
  rw [bk_some (by omega)] at e
  cases e
  omega
theorem cell_new2 (w : World) (a b : Value) (t1 t2 : TypeId) : ((w.alloc (.cells #[a] t1)).alloc (.cells #[b] t2)).cell? ((⟨w.heap.size + 1, 0, none⟩ : Addr).add 0) = some b := by
  have := cell_new1 (w.alloc (.cells #[a] t1)) b t2
  rwa [World.size_alloc] at this
theorem l3_rule (b : Nat) (V S T : Int) : ∀ W : World, Blk W b 23 #[.int .i64 V, .int .i64 S, .int .i64 T] → W.cell? ⟨b, 0, none⟩ = some (.int .i64 V) ∧ W.cell? ⟨b, 1, none⟩ = some (.int .i64 S) ∧ W.cell? ⟨b, 2, none⟩ = some (.int .i64 T) := fun _ h => ⟨h.cell 0, h.cell 1, h.cell 2⟩
section
variable {w w' W W' w0 : World} {V S T : Int} {zb l3 q p gb cap m m' pb mb vb cp cm cv fb dl dc n x pr : Nat} {da : Option Addr} {vo vr vr' : Value} {g g' : Mg9} {P P' : Nat → Nat} {vx vx' : Nat → Bool} {vs vs' : List Value} {ts ts' : List Tp}
structure B0 (w0 W : World) (zb l3 q : Nat) (V S T : Int) (p gb : Nat) (da : Option Addr) (dl dc : Nat) (vo : Value) : Prop where
  hz : Blk W zb 27 #[.int .i64 V, .int .i64 S, .int .i64 T, .slice da dl dc, vo]
  hl : Blk W l3 23 #[.int .i64 V, .int .i64 S, .int .i64 T]
  hq : Blk W q 49 #[.int .i64 V, .int .i64 S, .int .i64 T, .pointer (some ⟨p, 0, none⟩), .int .i64 V, .int .i64 S, .int .i64 T, .iface 71 (pmV p), .int .i64 1, .int .i64 0, .slice none 0 0, .slice none 0 0, .slice none 0 0, .slice none 0 0]
  tm : TM W V S T p gb (cellsN V S T) 0 (fun _ _ => 0)
  be : Below w0.heap.size w0 W
  kq : w0.heap.size ≤ q
  kp : w0.heap.size ≤ p
  kg : w0.heap.size ≤ gb
theorem B0.below (h : B0 w0 w zb l3 q V S T p gb da dl dc vo) (hb : Below w.heap.size w w') : B0 w0 w' zb l3 q V S T p gb da dl dc vo := ⟨h.hz.below hb h.hz.lt, h.hl.below hb h.hl.lt, h.hq.below hb h.hq.lt, h.tm.below hb, h.be.trans (hb.mono h.be.size), h.kq, h.kp, h.kg⟩
theorem B0.cells (h : B0 w0 W zb l3 q V S T p gb da dl dc vo) : W.cell? ⟨zb, 0, none⟩ = some (.int .i64 V) ∧ W.cell? ⟨zb, 1, none⟩ = some (.int .i64 S) ∧ W.cell? ⟨zb, 2, none⟩ = some (.int .i64 T) ∧ W.cell? ⟨zb, 3, none⟩ = some (.slice da dl dc) ∧ W.cell? ⟨l3, 0, none⟩ = some (.int .i64 V) ∧ W.cell? ⟨l3, 1, none⟩ = some (.int .i64 S) ∧ W.cell? ⟨l3, 2, none⟩ = some (.int .i64 T) := ⟨h.hz.cell 0, h.hz.cell 1, h.hz.cell 2, h.hz.cell 3, h.hl.cell 0, h.hl.cell 1, h.hl.cell 2⟩
theorem BS.made (h : B0 w0 W zb l3 q V S T p gb da dl dc vo) {X : World} (hb : Below W.heap.size W X) (hn : nN V S = n) (h1 : X.heap[pb]? = some (.cells (madeCells #[.int .u64 0] (n + 1)) 73)) (h2 : X.heap[mb]? = some (.cells (madeCells #[.int .i64 0] (n + 1)) 3)) (h3 : X.heap[vb]? = some (.cells (madeCells #[.bool false] (n + 1)) 4))
    (h4 : X.heap[fb]? = some (.cells #[.slice none 0 0, .slice (some ⟨pb, 0, none⟩) (n + 1) (n + 1), .slice (some ⟨mb, 0, none⟩) (n + 1) (n + 1), .slice (some ⟨vb, 0, none⟩) (n + 1) (n + 1)] 47)) (b1 : W.heap.size ≤ pb) (b2 : W.heap.size ≤ mb) (b3 : W.heap.size ≤ vb) (b4 : W.heap.size ≤ fb) :
    BS w0 X zb l3 q fb V S T p gb (cellsN V S T) pb (n + 1) mb (n + 1) vb (n + 1) da dl dc vo 0 (fun _ _ => 0) (fun _ => 0) (fun _ => false) (.slice none 0 0) [] [] ∧ BC w0 q fb p gb pb mb vb := by
  subst hn
  have h' := h.below hb
  have hs := h.be.size
  have hg := h.tm.g_lt
  refine ⟨⟨⟨h'.hz, h'.hl, h'.hq, h4⟩, h'.tm, ⟨⟨_, h1, fun k hk => made_at _ _ _ (by omega)⟩, ⟨_, h2, by rw [size_madeCells], fun k hk => made_at _ _ _ (by omega)⟩, ⟨_, h3, fun k hk => made_at _ _ _ (by omega)⟩⟩, RowV.nil _ _, ⟨rfl, fun i v t h1 _ => by simp at h1⟩, h'.be⟩, ⟨by omega, h.kq, by omega, h.kp, h.kg, by omega, by omega, by omega⟩⟩
/-- The forest is told to the play. -/
theorem BS.fin (h : BS w0 w zb l3 q fb V S T p gb cap pb cp mb cm vb cv da dl dc vo m g P vx vr vs ts) (c : BC w0 q fb p gb pb mb vb) (hn : nN V S = n) (h1 : ∀ y, P y = g y 5) (h2 : ∀ y, y ≤ n → vx y = vx0 V y) :
    PlayM ((((w.setCell ⟨q, 10, none⟩ vr).setCell ⟨q, 11, none⟩ (.slice (some ⟨pb, 0, none⟩) (n + 1) cp)).setCell ⟨q, 12, none⟩ (.slice (some ⟨mb, 0, none⟩) (n + 1) cm)).setCell ⟨q, 13, none⟩ (.slice (some ⟨vb, 0, none⟩) (n + 1) cv)) ⟨V, S, T, q, p, gb, cap, pb, mb, vb, cp, cm, cv, w0.heap.size⟩ m g (fun _ => 0) ts vr vs ∧
    Below w0.heap.size w0 ((((w.setCell ⟨q, 10, none⟩ vr).setCell ⟨q, 11, none⟩ (.slice (some ⟨pb, 0, none⟩) (n + 1) cp)).setCell ⟨q, 12, none⟩ (.slice (some ⟨mb, 0, none⟩) (n + 1) cm)).setCell ⟨q, 13, none⟩ (.slice (some ⟨vb, 0, none⟩) (n + 1) cv)) := by
  subst hn
  obtain rfl : P = fun y => g y 5 := funext h1
  have hq := h.bg.q
  have ho : Only q q w ((((w.setCell ⟨q, 10, none⟩ vr).setCell ⟨q, 11, none⟩ (.slice (some ⟨pb, 0, none⟩) (nN V S + 1) cp)).setCell ⟨q, 12, none⟩ (.slice (some ⟨mb, 0, none⟩) (nN V S + 1) cm)).setCell ⟨q, 13, none⟩ (.slice (some ⟨vb, 0, none⟩) (nN V S + 1) cv)) :=
    (((only_set w q 10 vr).trans (only_set _ q 11 _)).trans (only_set _ q 12 _)).trans (only_set _ q 13 _)
  have hq4 := (((hq.set_ 10 vr).set_ 11 (.slice (some ⟨pb, 0, none⟩) (nN V S + 1) cp)).set_ 12 (.slice (some ⟨mb, 0, none⟩) (nN V S + 1) cm)).set_ 13 (.slice (some ⟨vb, 0, none⟩) (nN V S + 1) cv)
  obtain ⟨z3, b5, e3⟩ := h.fs.v
  have hfs : FS w pb mb vb (nN V S) (fun y => g y 5) (fun _ => 0) (vx0 V) := ⟨h.fs.p, h.fs.m, z3, b5, fun k hk => (e3 k hk).trans (by rw [h2 k hk])⟩
  have tf : ∀ {W : World} {cs : Array Value} (i : Nat) (u : Value), TM W V S T p gb cap m g → Blk W q 49 cs → TM (W.setCell ⟨q, i, none⟩ u) V S T p gb cap m g := fun i u A hz => A.far hz (by decide) (by decide) u
  refine ⟨⟨hq4, tf 13 _ (tf 12 _ (tf 11 _ (tf 10 _ h.tm hq) (hq.set_ 10 _)) ((hq.set_ 10 _).set_ 11 _)) (((hq.set_ 10 _).set_ 11 _).set_ 12 _), h.rv.only ho (h.rv.ne_blk hq (by decide)) (h.rv.ne_blk hq (by decide)), h.ro.only ho hq hq (by decide) (by decide), hfs.onlyq hq (by decide) (by decide) (by decide) ho, c.npg⟩, Only.below h.be ho h.be.size c.q c.q⟩
end

section
variable {w : World} {V S T : Int} {da : Option Addr} {dl dc : Nat} {vo : Value} {f : Nat → Nat}
set_option maxHeartbeats 8000000 in
theorem begun_any (hR : Rt V S T) (hD : IsNum w da dl f) (hdl : dl ≤ 60) :
    Calls Try.prog 10 #[.agg #[.int .i64 V, .int .i64 S, .int .i64 T, .slice da dl dc, vo]] w (BegunD V S T (priF dl f) w) := by
  have HR := Lib.hid hR
  have HD := Lib.hid hD
  have hn560 := nN_le hR
  have HDL := Lib.hid hdl
  clear hR hD
  go_enter Try.func10, Try.ntmps10
  go_wp2_with fail
  have HZ : Hid (Blk ((w.alloc (.cells #[.int .i64 V, .int .i64 S, .int .i64 T, .slice da dl dc, vo] 27)).alloc (.cells #[.int .i64 V, .int .i64 S, .int .i64 T] 23)) w.heap.size 27 #[.int .i64 V, .int .i64 S, .int .i64 T, .slice da dl dc, vo]) := Lib.hid ((Blk.new _ _ _).alloc _)
  have HL : Hid (Blk ((w.alloc (.cells #[.int .i64 V, .int .i64 S, .int .i64 T, .slice da dl dc, vo] 27)).alloc (.cells #[.int .i64 V, .int .i64 S, .int .i64 T] 23)) (w.heap.size + 1) 23 #[.int .i64 V, .int .i64 S, .int .i64 T]) := Lib.hid (new_next w _ _ _ _)
  have HB : Hid (Below w.heap.size w ((w.alloc (.cells #[.int .i64 V, .int .i64 S, .int .i64 T, .slice da dl dc, vo] 27)).alloc (.cells #[.int .i64 V, .int .i64 S, .int .i64 T] 23))) := Lib.hid (((Below.refl _ _).alloc (Nat.le_refl _) _).alloc (by simp) _)
  generalize hzb : w.heap.size = zb at HZ HL ⊢
  have Hzb := Lib.hid hzb
  generalize hW1 : (w.alloc (.cells #[.int .i64 V, .int .i64 S, .int .i64 T, .slice da dl dc, vo] 27)).alloc (.cells #[.int .i64 V, .int .i64 S, .int .i64 T] 23) = W1 at HZ HL HB ⊢
  clear hW1 hzb
  refine (cells_yes V S T HR.out _).mono ?_; rintro e w2 ⟨rfl, hb2⟩
  have hlt := hb2.size
  have Hs2 := Lib.hid hlt
  have HZ2 := Lib.hid (HZ.out.below hb2 HZ.out.lt)
  have HL2 := Lib.hid (HL.out.below hb2 HL.out.lt)
  have HB2 := Lib.hid (HB.out.trans (hb2.mono HB.out.size))
  clear HZ HL HB hb2 hlt
  go_wp2_with fail
  refine (lnew HR.out _).mono ?_; rintro e w3 ⟨rfl, hA, hb3⟩
  have HZ3 := Lib.hid (HZ2.out.below hb3 HZ2.out.lt)
  have HL3 := Lib.hid (HL2.out.below hb3 HL2.out.lt)
  have HB3 := Lib.hid (HB2.out.trans (hb3.mono HB2.out.size))
  have HA3 := Lib.hid (TM.new HR.out hA)
  have Hs3 := Lib.hid HB2.out.size
  generalize hp3 : w2.heap.size + 1 = p at HA3 ⊢
  generalize hg3 : w2.heap.size = gb at HA3
  have HPG : Hid (w.heap.size ≤ gb ∧ w.heap.size ≤ p) := Lib.hid (by have := Hs3.out; omega)
  clear hA hb3 HZ2 HL2 HB2 hp3 hg3 Hs3 Hs2
  have b0 : ((0 : Int) != 0) = false := rfl
  have z3 := HZ3.out.cell 3
  have l0 : w3.cell? ⟨zb + 1, 0, none⟩ = some (.int .i64 V) := HL3.out.cell 0
  have l1 : w3.cell? ⟨zb + 1, 1, none⟩ = some (.int .i64 S) := HL3.out.cell 1
  have l2 : w3.cell? ⟨zb + 1, 2, none⟩ = some (.int .i64 T) := HL3.out.cell 2
  have llt := HL3.out.lt
  go_upto_region 5 with fail
  have HLd := Lib.hid (HL3.out.drew)
  have HZd := Lib.hid (HZ3.out.drew)
  have HAd := Lib.hid (HA3.out.drew)
  have HBd := Lib.hid (HB3.out.drew)
  have hrule := l3_rule (zb + 1) V S T
  clear HZ3 HL3 HA3 HB3
  go_region_held3 (fun W => Blk W (zb + 1) 23 #[.int .i64 V, .int .i64 S, .int .i64 T]) (first | (with_reducible assumption) | (with_reducible exact HLf.out) | (with_reducible exact Blk.alloc HLf.out _) | (with_reducible exact HLd.out))
    (first
      | (go_at_call 29; ((with_reducible refine (pm_of p _).mono ?_); rintro e w4 ⟨rfl, hb1⟩; have HLf := Lib.hid (HLd.out.below hb1 HLd.out.lt); have HZf := Lib.hid (HZd.out.below hb1 HZd.out.lt); have HAf := Lib.hid (HAd.out.below hb1); have HBf := Lib.hid (HBd.out.trans (hb1.mono HBd.out.size)))))
  have HB0 : Hid (B0 w (w4.alloc (.cells #[.int .i64 V, .int .i64 S, .int .i64 T, .pointer (some ⟨p, 0, none⟩), .int .i64 V, .int .i64 S, .int .i64 T, .iface 71 (pmV p), .int .i64 1, .int .i64 0, .slice none 0 0, .slice none 0 0, .slice none 0 0, .slice none 0 0] 49)) zb (zb + 1) w4.heap.size V S T p gb da dl dc vo) := Lib.hid
    ⟨HZf.out.alloc _, HLf.out.alloc _, Blk.new _ _ _, HAf.out.alloc _, HBf.out.alloc HBf.out.size _, HBf.out.size, HPG.out.2, HPG.out.1⟩
  generalize w4.heap.size = q at HB0 ⊢
  generalize w4.alloc (.cells #[.int .i64 V, .int .i64 S, .int .i64 T, .pointer (some ⟨p, 0, none⟩), .int .i64 V, .int .i64 S, .int .i64 T, .iface 71 (pmV p), .int .i64 1, .int .i64 0, .slice none 0 0, .slice none 0 0, .slice none 0 0, .slice none 0 0] 49) = W5 at HB0 ⊢
  clear HZd HLd HAd HBd HZf HLf HAf HBf z3 l0 l1 l2 llt b0 hrule HPG hb1
  obtain ⟨_, _, _, _, l0, l1, l2⟩ := HB0.out.cells
  have llt := HB0.out.hl.lt
  go_wp2_with fail
  refine (lnodes HR.out _).mono ?_; rintro e w6 ⟨rfl, hb6⟩
  have HB6 := Lib.hid (HB0.out.below hb6)
  obtain ⟨n9, hn9⟩ : ∃ n, nN V S = n := ⟨_, rfl⟩
  have HN9 := Lib.hid hn9
  rw [hn9] at hn560
  rw [hn9]
  clear HB0 l0 l1 l2 llt hb6 hn9
  have nI : (n9 : Int) ≤ 560 := by omega
  have k1 := made_u n9 (by omega)
  have k2 := made_i n9 (by omega)
  have k3 := made_b n9 (by omega)
  go_upto_region 7 with fail
  go_cut [8] from 38 to 47 (fun s wx => ∃ fb pb mb vb, s = .pointer (some ⟨fb, 0, none⟩) ∧ BS w wx zb (zb + 1) q fb V S T p gb (cellsN V S T) pb (n9 + 1) mb (n9 + 1) vb (n9 + 1) da dl dc vo 0 (fun _ _ => 0) (fun _ => 0) (fun _ => false) (.slice none 0 0) [] [] ∧ BC w q fb p gb pb mb vb)
  case first =>
    go_region
    all_goals
      go_wp2_with fail
      go_meet
      first
        | exact ⟨_, _, _, _, rfl, BS.made HB6.out (al4 _ _ _ _ _).2.drew HN9.out (al4 w6 _ _ _ _).1.1 (al4 w6 _ _ _ _).1.2.1 (al4 w6 _ _ _ _).1.2.2.1 (al4 w6 _ _ _ _).1.2.2.2 (by omega) (by omega) (by omega) (by omega)⟩
        | exact ⟨_, _, _, _, rfl, BS.made HB6.out (al4 _ _ _ _ _).2.drew HN9.out (al4 w6 _ _ _ _).1.1 (al4 w6 _ _ _ _).1.2.1 (al4 w6 _ _ _ _).1.2.2.2 (al4 w6 _ _ _ _).1.2.2.1 (by omega) (by omega) (by omega) (by omega)⟩
        | exact ⟨_, _, _, _, rfl, BS.made HB6.out (al4 _ _ _ _ _).2.drew HN9.out (al4 w6 _ _ _ _).1.1 (al4 w6 _ _ _ _).1.2.2.1 (al4 w6 _ _ _ _).1.2.1 (al4 w6 _ _ _ _).1.2.2.2 (by omega) (by omega) (by omega) (by omega)⟩
        | exact ⟨_, _, _, _, rfl, BS.made HB6.out (al4 _ _ _ _ _).2.drew HN9.out (al4 w6 _ _ _ _).1.1 (al4 w6 _ _ _ _).1.2.2.1 (al4 w6 _ _ _ _).1.2.2.2 (al4 w6 _ _ _ _).1.2.1 (by omega) (by omega) (by omega) (by omega)⟩
        | exact ⟨_, _, _, _, rfl, BS.made HB6.out (al4 _ _ _ _ _).2.drew HN9.out (al4 w6 _ _ _ _).1.1 (al4 w6 _ _ _ _).1.2.2.2 (al4 w6 _ _ _ _).1.2.1 (al4 w6 _ _ _ _).1.2.2.1 (by omega) (by omega) (by omega) (by omega)⟩
        | exact ⟨_, _, _, _, rfl, BS.made HB6.out (al4 _ _ _ _ _).2.drew HN9.out (al4 w6 _ _ _ _).1.1 (al4 w6 _ _ _ _).1.2.2.2 (al4 w6 _ _ _ _).1.2.2.1 (al4 w6 _ _ _ _).1.2.1 (by omega) (by omega) (by omega) (by omega)⟩
        | exact ⟨_, _, _, _, rfl, BS.made HB6.out (al4 _ _ _ _ _).2.drew HN9.out (al4 w6 _ _ _ _).1.2.1 (al4 w6 _ _ _ _).1.1 (al4 w6 _ _ _ _).1.2.2.1 (al4 w6 _ _ _ _).1.2.2.2 (by omega) (by omega) (by omega) (by omega)⟩
        | exact ⟨_, _, _, _, rfl, BS.made HB6.out (al4 _ _ _ _ _).2.drew HN9.out (al4 w6 _ _ _ _).1.2.1 (al4 w6 _ _ _ _).1.1 (al4 w6 _ _ _ _).1.2.2.2 (al4 w6 _ _ _ _).1.2.2.1 (by omega) (by omega) (by omega) (by omega)⟩
        | exact ⟨_, _, _, _, rfl, BS.made HB6.out (al4 _ _ _ _ _).2.drew HN9.out (al4 w6 _ _ _ _).1.2.1 (al4 w6 _ _ _ _).1.2.2.1 (al4 w6 _ _ _ _).1.1 (al4 w6 _ _ _ _).1.2.2.2 (by omega) (by omega) (by omega) (by omega)⟩
        | exact ⟨_, _, _, _, rfl, BS.made HB6.out (al4 _ _ _ _ _).2.drew HN9.out (al4 w6 _ _ _ _).1.2.1 (al4 w6 _ _ _ _).1.2.2.1 (al4 w6 _ _ _ _).1.2.2.2 (al4 w6 _ _ _ _).1.1 (by omega) (by omega) (by omega) (by omega)⟩
        | exact ⟨_, _, _, _, rfl, BS.made HB6.out (al4 _ _ _ _ _).2.drew HN9.out (al4 w6 _ _ _ _).1.2.1 (al4 w6 _ _ _ _).1.2.2.2 (al4 w6 _ _ _ _).1.1 (al4 w6 _ _ _ _).1.2.2.1 (by omega) (by omega) (by omega) (by omega)⟩
        | exact ⟨_, _, _, _, rfl, BS.made HB6.out (al4 _ _ _ _ _).2.drew HN9.out (al4 w6 _ _ _ _).1.2.1 (al4 w6 _ _ _ _).1.2.2.2 (al4 w6 _ _ _ _).1.2.2.1 (al4 w6 _ _ _ _).1.1 (by omega) (by omega) (by omega) (by omega)⟩
        | exact ⟨_, _, _, _, rfl, BS.made HB6.out (al4 _ _ _ _ _).2.drew HN9.out (al4 w6 _ _ _ _).1.2.2.1 (al4 w6 _ _ _ _).1.1 (al4 w6 _ _ _ _).1.2.1 (al4 w6 _ _ _ _).1.2.2.2 (by omega) (by omega) (by omega) (by omega)⟩
        | exact ⟨_, _, _, _, rfl, BS.made HB6.out (al4 _ _ _ _ _).2.drew HN9.out (al4 w6 _ _ _ _).1.2.2.1 (al4 w6 _ _ _ _).1.1 (al4 w6 _ _ _ _).1.2.2.2 (al4 w6 _ _ _ _).1.2.1 (by omega) (by omega) (by omega) (by omega)⟩
        | exact ⟨_, _, _, _, rfl, BS.made HB6.out (al4 _ _ _ _ _).2.drew HN9.out (al4 w6 _ _ _ _).1.2.2.1 (al4 w6 _ _ _ _).1.2.1 (al4 w6 _ _ _ _).1.1 (al4 w6 _ _ _ _).1.2.2.2 (by omega) (by omega) (by omega) (by omega)⟩
        | exact ⟨_, _, _, _, rfl, BS.made HB6.out (al4 _ _ _ _ _).2.drew HN9.out (al4 w6 _ _ _ _).1.2.2.1 (al4 w6 _ _ _ _).1.2.1 (al4 w6 _ _ _ _).1.2.2.2 (al4 w6 _ _ _ _).1.1 (by omega) (by omega) (by omega) (by omega)⟩
        | exact ⟨_, _, _, _, rfl, BS.made HB6.out (al4 _ _ _ _ _).2.drew HN9.out (al4 w6 _ _ _ _).1.2.2.1 (al4 w6 _ _ _ _).1.2.2.2 (al4 w6 _ _ _ _).1.1 (al4 w6 _ _ _ _).1.2.1 (by omega) (by omega) (by omega) (by omega)⟩
        | exact ⟨_, _, _, _, rfl, BS.made HB6.out (al4 _ _ _ _ _).2.drew HN9.out (al4 w6 _ _ _ _).1.2.2.1 (al4 w6 _ _ _ _).1.2.2.2 (al4 w6 _ _ _ _).1.2.1 (al4 w6 _ _ _ _).1.1 (by omega) (by omega) (by omega) (by omega)⟩
        | exact ⟨_, _, _, _, rfl, BS.made HB6.out (al4 _ _ _ _ _).2.drew HN9.out (al4 w6 _ _ _ _).1.2.2.2 (al4 w6 _ _ _ _).1.1 (al4 w6 _ _ _ _).1.2.1 (al4 w6 _ _ _ _).1.2.2.1 (by omega) (by omega) (by omega) (by omega)⟩
        | exact ⟨_, _, _, _, rfl, BS.made HB6.out (al4 _ _ _ _ _).2.drew HN9.out (al4 w6 _ _ _ _).1.2.2.2 (al4 w6 _ _ _ _).1.1 (al4 w6 _ _ _ _).1.2.2.1 (al4 w6 _ _ _ _).1.2.1 (by omega) (by omega) (by omega) (by omega)⟩
        | exact ⟨_, _, _, _, rfl, BS.made HB6.out (al4 _ _ _ _ _).2.drew HN9.out (al4 w6 _ _ _ _).1.2.2.2 (al4 w6 _ _ _ _).1.2.1 (al4 w6 _ _ _ _).1.1 (al4 w6 _ _ _ _).1.2.2.1 (by omega) (by omega) (by omega) (by omega)⟩
        | exact ⟨_, _, _, _, rfl, BS.made HB6.out (al4 _ _ _ _ _).2.drew HN9.out (al4 w6 _ _ _ _).1.2.2.2 (al4 w6 _ _ _ _).1.2.1 (al4 w6 _ _ _ _).1.2.2.1 (al4 w6 _ _ _ _).1.1 (by omega) (by omega) (by omega) (by omega)⟩
        | exact ⟨_, _, _, _, rfl, BS.made HB6.out (al4 _ _ _ _ _).2.drew HN9.out (al4 w6 _ _ _ _).1.2.2.2 (al4 w6 _ _ _ _).1.2.2.1 (al4 w6 _ _ _ _).1.1 (al4 w6 _ _ _ _).1.2.1 (by omega) (by omega) (by omega) (by omega)⟩
        | exact ⟨_, _, _, _, rfl, BS.made HB6.out (al4 _ _ _ _ _).2.drew HN9.out (al4 w6 _ _ _ _).1.2.2.2 (al4 w6 _ _ _ _).1.2.2.1 (al4 w6 _ _ _ _).1.2.1 (al4 w6 _ _ _ _).1.1 (by omega) (by omega) (by omega) (by omega)⟩
  case rest =>
    obtain ⟨fb, pb, mb, vb, rfl, hS0, hC⟩ := hcut
    have HRel : Hid (BgRel w zb (zb + 1) q fb V S T p gb (cellsN V S T) pb (n9 + 1) mb (n9 + 1) vb (n9 + 1) da dl dc vo f (.int .i64 1) wc) := Lib.hid
      ⟨1, _, _, _, Nat.le_refl _, by omega, rfl, hS0.eqs (P' := fun z => (fun _ _ => 0 : Mg9) z 5) (fun _ => rfl) (fun y => by
        by_cases hy : y = 0
        · subst hy; rfl
        · rw [decide_eq_false (by omega)]; rfl) rfl, fun y h1 h2 => absurd h1 (by omega), fun y h1 h2 => absurd h1 (by omega), fun _ _ => rfl⟩
    have HC := Lib.hid hC
    clear hS0 hC HB6 k1 k2 k3
    go_wp2_with fail
    go_loopw [9] (fun i wr => BgRel w zb (zb + 1) q fb V S T p gb (cellsN V S T) pb (n9 + 1) mb (n9 + 1) vb (n9 + 1) da dl dc vo f i wr) (fun i _ => n9 + 1 - (intOf i).toNat)
    case atStart => exact HRel.out
    case round =>
      clear HRel
      obtain ⟨x, g, vr, vs, hx1, hx2, rfl, hS, hst, hp, hz⟩ := hrel
      have HS := Lib.hid hS
      have HST := Lib.hid hst
      have HP := Lib.hid hp
      have HZ := Lib.hid hz
      have HZ0 := Lib.hid hS.tm.z
      rw [HN9.out] at hx2
      clear hS hst hp hz
      obtain ⟨y0, y1, y2, y3, y4, y5, y6, y7, y8, y9, y10, y11, y12, y13, y14, y15, y16⟩ := HS.out.bg.cells
      rw [HN9.out] at y14 y15 y16
      have zlt := HS.out.bg.z.lt
      have llt := HS.out.bg.l.lt
      have qlt := HS.out.bg.q.lt
      have flt := HS.out.bg.f.lt
      by_cases hxn : x ≤ n9
      · have HXN : Hid (x ≤ nN V S) := Lib.hid (by have := HN9.out; omega)
        have hxI : (x : Int) ≤ (n9 : Int) := by omega
        by_cases hk0 : dl = 0
        · have hdI : ¬ (0 : Int) < (dl : Int) := by omega
          have HPR : Hid (priF dl f x = 0) := Lib.hid (if_pos hk0)
          have H1 : Hid (BS w wr zb (zb + 1) q fb V S T p gb (cellsN V S T) pb (n9 + 1) mb (n9 + 1) vb (n9 + 1) da dl dc vo (10 * (x - 1)) g (fun y => if y = x then priF dl f x else g y 5) (fun z => decide (z < x) && vx0 V z) vr vs (sing (x - 1))) := Lib.hid (HS.out.eqs (fun y => by
            show (if y = x then priF dl f x else g y 5) = g y 5
            split
            · rename_i e; subst e; rw [HPR.out, HZ.out y (Nat.le_refl _)]
            · rfl) (fun _ => rfl) rfl)
          clear hk0 HPR HS
          go_upto_region 13 with fail
          generalize wr = W1 at H1 ⊢
          clear y0 y1 y2 y3 y4 y5 y6 y7 y8 y9 y10 y11 y12 y13 y14 y15 y16 zlt llt qlt flt
          obtain ⟨y0, y1, y2, y3, y4, y5, y6, y7, y8, y9, y10, y11, y12, y13, y14, y15, y16⟩ := H1.out.bg.cells
          have llt := H1.out.bg.l.lt
          go_wp2_with fail
          refine (node_is HR.out hx1 HXN.out _).mono ?_; rintro e w2 ⟨⟨v, s, d, rfl⟩, hb2⟩
          have H2 := Lib.hid (H1.out.below hb2)
          clear y0 y1 y2 y3 y4 y5 y6 y7 y8 y9 y10 y11 y12 y13 y14 y15 y16 llt hb2 H1
          obtain ⟨y0, y1, y2, y3, y4, y5, y6, y7, y8, y9, y10, y11, y12, y13, y14, y15, y16⟩ := H2.out.bg.cells
          rw [HN9.out] at y14 y15 y16
          have flt := H2.out.bg.f.lt
          obtain ⟨zv, bv, ev⟩ := H2.out.fs.v
          have vcell := (bv.cell x).trans (ev x HXN.out)
          have vfz := bv.frozen x
          have vlt := bv.lt
          have hx0 : (0 : Int) ≤ (x : Int) := by omega
          have hx3 : (x : Int) < (n9 : Int) + 1 := by omega
          clear bv ev
          go_wp2_with fail
          have H3 := Lib.hid ((H2.out.vtx HC.out HXN.out (v := !arcN V x)).below ((Below.refl _ _).alloc (Nat.le_refl _) (.cells #[.bool (arcN V x), .int .i64 (lvN V x), .int .i64 v, .int .i64 s, .int .i64 d] 75)))
          generalize (w2.setCell ⟨vb, x, none⟩ (.bool !arcN V x)).alloc (.cells #[.bool (arcN V x), .int .i64 (lvN V x), .int .i64 v, .int .i64 s, .int .i64 d] 75) = W3 at H3 ⊢
          clear y0 y1 y2 y3 y4 y5 y6 y7 y8 y9 y10 y11 y12 y13 y14 y15 y16 flt vcell vfz vlt H2
          obtain ⟨pr, hpr⟩ : ∃ pr, priF dl f x = pr := ⟨_, rfl⟩
          have HPR := Lib.hid hpr
          have Hpr64 : Hid (pr ≤ 18446744073709551615) := Lib.hid (by
            rw [← hpr]; unfold priF; split
            · omega
            · obtain ⟨_, _, _, hc⟩ := HD.out (by omega); exact (hc _ (Nat.mod_lt _ (by omega))).2)
          rw [hpr] at H3
          clear hpr
          have HBd : Hid (BP W3.drew zb (zb + 1) q fb V S T p n9 pb (n9 + 1) mb (n9 + 1) vb (n9 + 1) da dl dc vo vr x pr) := Lib.hid (BP.drew (by have h := H3.out.bp HXN.out (v := pr) (if_pos rfl); rw [HN9.out] at h; exact h))
          have H3d := Lib.hid H3.out.drew
          clear H3
          have hbp := bp_rule zb (zb + 1) q fb V S T p n9 pb (n9 + 1) mb (n9 + 1) vb (n9 + 1) da dl dc vo vr x pr
          obtain ⟨y0, y1, y2, y3, y4, y5, y6, y7, y8⟩ := hbp _ HBd.out
          have llt := HBd.out.bg.l.lt
          have flt := HBd.out.bg.f.lt
          have plt : pb < W3.drew.heap.size := by obtain ⟨_, z9, h9, _⟩ := HBd.out; exact h9.lt
          have HM : Hid (10 * (x - 1) ≤ 900000) := Lib.hid (by omega)
          go_region_held3 (fun W => BP W zb (zb + 1) q fb V S T p n9 pb (n9 + 1) mb (n9 + 1) vb (n9 + 1) da dl dc vo vr x pr) (first | (with_reducible assumption) | (with_reducible exact HBf.out) | (with_reducible exact HBs.out) | (with_reducible exact HBd.out))
            (first
              | (go_at_call 33; ((with_reducible refine (lfield5 HR.out hx1 HXN.out _).mono ?_); rintro e w4 ⟨rfl, hb4⟩; have HBf := Lib.hid (HBd.out.below hb4); have H4 := Lib.hid (H3d.out.below hb4)))
              | (go_at_call 32; ((with_reducible refine (lstore5 H4.out.tm hx1 HXN.out Hpr64.out (Nat.le_trans HM.out (by omega))).mono ?_); rintro e w5 ⟨rfl, A5, O5⟩; have HBs := Lib.hid (HBf.out.only HC.out.npg H4.out.tm O5); have H5 := Lib.hid (H4.out.only HC.out A5 O5))))
          clear y0 y1 y2 y3 y4 y5 y6 y7 y8 llt flt plt HBd H3d HBf H4 HBs A5 O5 hb4 hbp
          obtain ⟨y0, y1, y2, y3, y4, y5, y6, y7, y8, y9, y10, y11, y12, y13, y14, y15, y16⟩ := H5.out.bg.cells
          rw [HN9.out] at y14 y15 y16
          have qlt := H5.out.bg.q.lt
          go_wp2_with fail
          refine (talone H5.out.tm hx1 HXN.out (Nat.le_trans (Nat.add_le_add_right HM.out 1) (by omega))).mono ?_; rintro e w6 ⟨rfl, A6, O6⟩
          have H6 := Lib.hid (H5.out.only HC.out A6 O6)
          obtain ⟨g6, hg6⟩ : ∃ g6, aloneG (vxN V) (up2 g x 5 pr) x = g6 := ⟨_, rfl⟩
          have HG6 := Lib.hid hg6
          rw [hg6] at H6
          clear y0 y1 y2 y3 y4 y5 y6 y7 y8 y9 y10 y11 y12 y13 y14 y15 y16 qlt H5 A6 O6 hg6
          obtain ⟨y0, y1, y2, y3, y4, y5, y6, y7, y8, y9, y10, y11, y12, y13, y14, y15, y16⟩ := H6.out.bg.cells
          rw [HN9.out] at y14 y15 y16
          have flt := H6.out.bg.f.lt
          have hvl : vs.length ≤ 100000 := by have := H6.out.ro.1; rw [sing_len] at this; omega
          have HRV := Lib.hid H6.out.rv
          have HLT6 := Lib.hid H6.out.rv.lt
          obtain ⟨av, ac, rfl⟩ := H6.out.rv.slice
          go_wp2_with (at_builtin; go_loud (refine wpList_append_row2 _ rfl _ _ rfl rfl ((HRV.out.alloc _).alloc _) (.slice (some ⟨w6.heap.size, 0, none⟩) 1 1) rfl ⟨w6.heap.size + 1, 0, none⟩ 1 rfl (cell_new2 _ _ _ _ _) hvl (Nat.le_trans H6.out.be.size (by simp; omega)) ?_))
          intro v7 w7 hR7 hg7 _
          have HSZ : Hid (w.heap.size ≤ ((w6.alloc (.cells #[.int .i64 (x : Int)] 3)).alloc (.cells #[.slice (some ⟨w6.heap.size, 0, none⟩) 1 1] 44)).heap.size) := Lib.hid (Nat.le_trans H6.out.be.size (by simp; omega))
          have H6a := Lib.hid (H6.out.below (((Below.refl _ _).alloc (Nat.le_refl _) (.cells #[.int .i64 (x : Int)] 3)).alloc (by simp) (.cells #[.slice (some ⟨w6.heap.size, 0, none⟩) 1 1] 44)))
          have HLI : Hid (LI ((w6.alloc (.cells #[.int .i64 (x : Int)] 3)).alloc (.cells #[.slice (some ⟨w6.heap.size, 0, none⟩) 1 1] 44)) (.slice (some ⟨w6.heap.size, 0, none⟩) 1 1) (sgl x).row) := Lib.hid ((LI.one w6 x).alloc _)
          have hmb : mb < w6.heap.size := H6.out.fs.m.lt
          have HBK : Hid (bk (.slice (some ⟨w6.heap.size, 0, none⟩) 1 1) ≠ some mb) := Lib.hid (bk_ne hmb)
          have f7 := (H6a.out.bg.f.grown hg7 (H6a.out.rv.ne_blk H6a.out.bg.f (by decide))).frozen 0
          have c7 := (H6a.out.bg.f.grown hg7 (H6a.out.rv.ne_blk H6a.out.bg.f (by decide))).cell 0
          have l7 := (H6a.out.bg.f.grown hg7 (H6a.out.rv.ne_blk H6a.out.bg.f (by decide))).lt
          have H7 := Lib.hid (H6a.out.append HC.out hg7 hR7 HLI.out HBK.out)
          obtain ⟨a7, k7, rfl⟩ := hR7.slice
          obtain ⟨n7, hn7⟩ : ∃ n, (vs ++ [Value.slice (some ⟨w6.heap.size, 0, none⟩) 1 1]).length = n := ⟨_, rfl⟩
          rw [hn7] at H7 ⊢
          clear y0 y1 y2 y3 y4 y5 y6 y7 y8 y9 y10 y11 y12 y13 y14 y15 y16 flt H6 H6a HLI HBK hmb hR7 hg7 HRV HLT6 HSZ hn7 hvl
          go_wp2_with fail
          go_roundw
          case rel =>
            refine ⟨x + 1, g6, .slice a7 n7 k7, vs ++ [.slice (some ⟨w6.heap.size, 0, none⟩) 1 1], by omega, by have := HN9.out; omega, by simp, ?_, ?_, ?_, ?_⟩
            · refine (H7.out.more (show 10 * (x - 1) + 1 + 9 ≤ 10 * (x + 1 - 1) by omega)).eqs (fun y => ?_) (fun y => ?_) ?_
              · show g6 y 5 = if y = x then pr else g y 5
                rw [← HG6.out, aloneG_pri]
                split
                · rename_i e; subst e; exact up2_same _ _ _ _
                · rename_i e; exact up2_node _ _ _ _ e
              · show (decide (y < x + 1) && vx0 V y) = if y = x then !arcN V x else decide (y < x) && vx0 V y
                split
                · rename_i e; subst e; rw [decide_eq_true (by omega), vx0_eq (by omega)]; rfl
                · by_cases hy : y < x
                  · rw [decide_eq_true hy, decide_eq_true (by omega)]
                  · rw [decide_eq_false hy, decide_eq_false (by omega)]
              · have e : x = x - 1 + 1 := by omega
                rw [show x + 1 - 1 = x - 1 + 1 by omega, sing_succ, ← e]
            · intro y h1 h2
              rw [← HG6.out]
              by_cases e : y = x
              · subst e
                exact alone_stands (by omega) fun k => by rw [up2_node _ _ _ _ (by omega)]; exact HZ0.out k
              · exact (HST.out y h1 (by omega)).same (by simp [sgl, Tp.row]) fun z hz k => by
                  have hz : z = y := by simpa [sgl, Tp.row] using hz
                  rw [hz, aloneG_other _ e, up2_node _ _ _ _ e]
            · intro y h1 h2
              rw [← HG6.out, aloneG_pri]
              by_cases e : y = x
              · subst e; rw [up2_same]; exact HPR.out.symm
              · rw [up2_node _ _ _ _ e]; exact HP.out y h1 (by omega)
            · intro y h1
              rw [← HG6.out, aloneG_pri, up2_node _ _ _ _ (by omega)]; exact HZ.out y (by omega)
          case measure => simp [intOf]; omega
        · obtain ⟨db, off, rfl, hcell⟩ := HD.out (by omega)
          obtain ⟨j, hj⟩ : ∃ j, x % dl = j := ⟨_, rfl⟩
          have hjl : j < dl := by rw [← hj]; exact Nat.mod_lt _ (by omega)
          have HPR : Hid (priF dl f x = f j) := Lib.hid (by unfold priF; rw [if_neg hk0, hj])
          have dcell := cell_later HS.out.be (hcell j hjl).1
          obtain ⟨P9, hP9⟩ : ∃ P, f j = P := ⟨_, rfl⟩
          rw [hP9] at dcell
          have HP9 := Lib.hid hP9
          have hdI : (0 : Int) < (dl : Int) := by omega
          have hd0 : ¬ (dl : Int) = 0 := by omega
          have htm : (x : Int).tmod (dl : Int) = (j : Int) := by rw [← hj]; exact Int.ofNat_tmod x dl
          have hjw : IntKind.i64.wrap (j : Int) = (j : Int) := IntWalk.i64_in _ (by have := HDL.out; omega)
          have hj1 : (j : Int) < (dl : Int) := by omega
          have hj0 : (0 : Int) ≤ (j : Int) := by omega
          have hx0 : (0 : Int) ≤ (x : Int) := by omega
          have hx3 : (x : Int) < (n9 : Int) + 1 := by omega
          obtain ⟨z1, b1, e1⟩ := HS.out.fs.p
          have pcell := (b1.cell x).trans (e1 x HXN.out)
          have pfz := b1.frozen x
          have H1 : Hid (BS w (wr.setCell ⟨pb, x, none⟩ (.int .u64 (P9 : Int))) zb (zb + 1) q fb V S T p gb (cellsN V S T) pb (n9 + 1) mb (n9 + 1) vb (n9 + 1) (some ⟨db, off, none⟩) dl dc vo (10 * (x - 1)) g (fun y => if y = x then priF dl f x else g y 5) (fun z => decide (z < x) && vx0 V z) vr vs (sing (x - 1))) := Lib.hid (by
            rw [HPR.out, HP9.out]; exact HS.out.pri HC.out HXN.out)
          clear hj hP9 hjl hk0 HPR HP9 HS b1 e1 hcell
          go_upto_region 12 with fail
          go_region
          replace H1 := Lib.hid H1.out.drew
          clear hj1 hj0 hx0 hx3 hdI hd0 htm hjw pcell pfz dcell
          generalize (wr.setCell ⟨pb, x, none⟩ (.int .u64 (P9 : Int))).drew = W1 at H1 ⊢
          clear y0 y1 y2 y3 y4 y5 y6 y7 y8 y9 y10 y11 y12 y13 y14 y15 y16 zlt llt qlt flt
          obtain ⟨y0, y1, y2, y3, y4, y5, y6, y7, y8, y9, y10, y11, y12, y13, y14, y15, y16⟩ := H1.out.bg.cells
          have llt := H1.out.bg.l.lt
          go_wp2_with fail
          refine (node_is HR.out hx1 HXN.out _).mono ?_; rintro e w2 ⟨⟨v, s, d, rfl⟩, hb2⟩
          have H2 := Lib.hid (H1.out.below hb2)
          clear y0 y1 y2 y3 y4 y5 y6 y7 y8 y9 y10 y11 y12 y13 y14 y15 y16 llt hb2 H1
          obtain ⟨y0, y1, y2, y3, y4, y5, y6, y7, y8, y9, y10, y11, y12, y13, y14, y15, y16⟩ := H2.out.bg.cells
          rw [HN9.out] at y14 y15 y16
          have flt := H2.out.bg.f.lt
          obtain ⟨zv, bv, ev⟩ := H2.out.fs.v
          have vcell := (bv.cell x).trans (ev x HXN.out)
          have vfz := bv.frozen x
          have vlt := bv.lt
          have hx0 : (0 : Int) ≤ (x : Int) := by omega
          have hx3 : (x : Int) < (n9 : Int) + 1 := by omega
          clear bv ev
          go_wp2_with fail
          have H3 := Lib.hid ((H2.out.vtx HC.out HXN.out (v := !arcN V x)).below ((Below.refl _ _).alloc (Nat.le_refl _) (.cells #[.bool (arcN V x), .int .i64 (lvN V x), .int .i64 v, .int .i64 s, .int .i64 d] 75)))
          generalize (w2.setCell ⟨vb, x, none⟩ (.bool !arcN V x)).alloc (.cells #[.bool (arcN V x), .int .i64 (lvN V x), .int .i64 v, .int .i64 s, .int .i64 d] 75) = W3 at H3 ⊢
          clear y0 y1 y2 y3 y4 y5 y6 y7 y8 y9 y10 y11 y12 y13 y14 y15 y16 flt vcell vfz vlt H2
          obtain ⟨pr, hpr⟩ : ∃ pr, priF dl f x = pr := ⟨_, rfl⟩
          have HPR := Lib.hid hpr
          have Hpr64 : Hid (pr ≤ 18446744073709551615) := Lib.hid (by
            rw [← hpr]; unfold priF; split
            · omega
            · obtain ⟨_, _, _, hc⟩ := HD.out (by omega); exact (hc _ (Nat.mod_lt _ (by omega))).2)
          rw [hpr] at H3
          clear hpr
          have HBd : Hid (BP W3.drew zb (zb + 1) q fb V S T p n9 pb (n9 + 1) mb (n9 + 1) vb (n9 + 1) (some ⟨db, off, none⟩) dl dc vo vr x pr) := Lib.hid (BP.drew (by have h := H3.out.bp HXN.out (v := pr) (if_pos rfl); rw [HN9.out] at h; exact h))
          have H3d := Lib.hid H3.out.drew
          clear H3
          have hbp := bp_rule zb (zb + 1) q fb V S T p n9 pb (n9 + 1) mb (n9 + 1) vb (n9 + 1) (some ⟨db, off, none⟩) dl dc vo vr x pr
          obtain ⟨y0, y1, y2, y3, y4, y5, y6, y7, y8⟩ := hbp _ HBd.out
          have llt := HBd.out.bg.l.lt
          have flt := HBd.out.bg.f.lt
          have plt : pb < W3.drew.heap.size := by obtain ⟨_, z9, h9, _⟩ := HBd.out; exact h9.lt
          have HM : Hid (10 * (x - 1) ≤ 900000) := Lib.hid (by omega)
          go_region_held3 (fun W => BP W zb (zb + 1) q fb V S T p n9 pb (n9 + 1) mb (n9 + 1) vb (n9 + 1) (some ⟨db, off, none⟩) dl dc vo vr x pr) (first | (with_reducible assumption) | (with_reducible exact HBf.out) | (with_reducible exact HBs.out) | (with_reducible exact HBd.out))
            (first
              | (go_at_call 33; ((with_reducible refine (lfield5 HR.out hx1 HXN.out _).mono ?_); rintro e w4 ⟨rfl, hb4⟩; have HBf := Lib.hid (HBd.out.below hb4); have H4 := Lib.hid (H3d.out.below hb4)))
              | (go_at_call 32; ((with_reducible refine (lstore5 H4.out.tm hx1 HXN.out Hpr64.out (Nat.le_trans HM.out (by omega))).mono ?_); rintro e w5 ⟨rfl, A5, O5⟩; have HBs := Lib.hid (HBf.out.only HC.out.npg H4.out.tm O5); have H5 := Lib.hid (H4.out.only HC.out A5 O5))))
          clear y0 y1 y2 y3 y4 y5 y6 y7 y8 llt flt plt HBd H3d HBf H4 HBs A5 O5 hb4 hbp
          obtain ⟨y0, y1, y2, y3, y4, y5, y6, y7, y8, y9, y10, y11, y12, y13, y14, y15, y16⟩ := H5.out.bg.cells
          rw [HN9.out] at y14 y15 y16
          have qlt := H5.out.bg.q.lt
          go_wp2_with fail
          refine (talone H5.out.tm hx1 HXN.out (Nat.le_trans (Nat.add_le_add_right HM.out 1) (by omega))).mono ?_; rintro e w6 ⟨rfl, A6, O6⟩
          have H6 := Lib.hid (H5.out.only HC.out A6 O6)
          obtain ⟨g6, hg6⟩ : ∃ g6, aloneG (vxN V) (up2 g x 5 pr) x = g6 := ⟨_, rfl⟩
          have HG6 := Lib.hid hg6
          rw [hg6] at H6
          clear y0 y1 y2 y3 y4 y5 y6 y7 y8 y9 y10 y11 y12 y13 y14 y15 y16 qlt H5 A6 O6 hg6
          obtain ⟨y0, y1, y2, y3, y4, y5, y6, y7, y8, y9, y10, y11, y12, y13, y14, y15, y16⟩ := H6.out.bg.cells
          rw [HN9.out] at y14 y15 y16
          have flt := H6.out.bg.f.lt
          have hvl : vs.length ≤ 100000 := by have := H6.out.ro.1; rw [sing_len] at this; omega
          have HRV := Lib.hid H6.out.rv
          have HLT6 := Lib.hid H6.out.rv.lt
          obtain ⟨av, ac, rfl⟩ := H6.out.rv.slice
          go_wp2_with (at_builtin; go_loud (refine wpList_append_row2 _ rfl _ _ rfl rfl ((HRV.out.alloc _).alloc _) (.slice (some ⟨w6.heap.size, 0, none⟩) 1 1) rfl ⟨w6.heap.size + 1, 0, none⟩ 1 rfl (cell_new2 _ _ _ _ _) hvl (Nat.le_trans H6.out.be.size (by simp; omega)) ?_))
          intro v7 w7 hR7 hg7 _
          have HSZ : Hid (w.heap.size ≤ ((w6.alloc (.cells #[.int .i64 (x : Int)] 3)).alloc (.cells #[.slice (some ⟨w6.heap.size, 0, none⟩) 1 1] 44)).heap.size) := Lib.hid (Nat.le_trans H6.out.be.size (by simp; omega))
          have H6a := Lib.hid (H6.out.below (((Below.refl _ _).alloc (Nat.le_refl _) (.cells #[.int .i64 (x : Int)] 3)).alloc (by simp) (.cells #[.slice (some ⟨w6.heap.size, 0, none⟩) 1 1] 44)))
          have HLI : Hid (LI ((w6.alloc (.cells #[.int .i64 (x : Int)] 3)).alloc (.cells #[.slice (some ⟨w6.heap.size, 0, none⟩) 1 1] 44)) (.slice (some ⟨w6.heap.size, 0, none⟩) 1 1) (sgl x).row) := Lib.hid ((LI.one w6 x).alloc _)
          have hmb : mb < w6.heap.size := H6.out.fs.m.lt
          have HBK : Hid (bk (.slice (some ⟨w6.heap.size, 0, none⟩) 1 1) ≠ some mb) := Lib.hid (bk_ne hmb)
          have f7 := (H6a.out.bg.f.grown hg7 (H6a.out.rv.ne_blk H6a.out.bg.f (by decide))).frozen 0
          have c7 := (H6a.out.bg.f.grown hg7 (H6a.out.rv.ne_blk H6a.out.bg.f (by decide))).cell 0
          have l7 := (H6a.out.bg.f.grown hg7 (H6a.out.rv.ne_blk H6a.out.bg.f (by decide))).lt
          have H7 := Lib.hid (H6a.out.append HC.out hg7 hR7 HLI.out HBK.out)
          obtain ⟨a7, k7, rfl⟩ := hR7.slice
          obtain ⟨n7, hn7⟩ : ∃ n, (vs ++ [Value.slice (some ⟨w6.heap.size, 0, none⟩) 1 1]).length = n := ⟨_, rfl⟩
          rw [hn7] at H7 ⊢
          clear y0 y1 y2 y3 y4 y5 y6 y7 y8 y9 y10 y11 y12 y13 y14 y15 y16 flt H6 H6a HLI HBK hmb hR7 hg7 HRV HLT6 HSZ hn7 hvl
          go_wp2_with fail
          go_roundw
          case rel =>
            refine ⟨x + 1, g6, .slice a7 n7 k7, vs ++ [.slice (some ⟨w6.heap.size, 0, none⟩) 1 1], by omega, by have := HN9.out; omega, by simp, ?_, ?_, ?_, ?_⟩
            · refine (H7.out.more (show 10 * (x - 1) + 1 + 9 ≤ 10 * (x + 1 - 1) by omega)).eqs (fun y => ?_) (fun y => ?_) ?_
              · show g6 y 5 = if y = x then pr else g y 5
                rw [← HG6.out, aloneG_pri]
                split
                · rename_i e; subst e; exact up2_same _ _ _ _
                · rename_i e; exact up2_node _ _ _ _ e
              · show (decide (y < x + 1) && vx0 V y) = if y = x then !arcN V x else decide (y < x) && vx0 V y
                split
                · rename_i e; subst e; rw [decide_eq_true (by omega), vx0_eq (by omega)]; rfl
                · by_cases hy : y < x
                  · rw [decide_eq_true hy, decide_eq_true (by omega)]
                  · rw [decide_eq_false hy, decide_eq_false (by omega)]
              · have e : x = x - 1 + 1 := by omega
                rw [show x + 1 - 1 = x - 1 + 1 by omega, sing_succ, ← e]
            · intro y h1 h2
              rw [← HG6.out]
              by_cases e : y = x
              · subst e
                exact alone_stands (by omega) fun k => by rw [up2_node _ _ _ _ (by omega)]; exact HZ0.out k
              · exact (HST.out y h1 (by omega)).same (by simp [sgl, Tp.row]) fun z hz k => by
                  have hz : z = y := by simpa [sgl, Tp.row] using hz
                  rw [hz, aloneG_other _ e, up2_node _ _ _ _ e]
            · intro y h1 h2
              rw [← HG6.out, aloneG_pri]
              by_cases e : y = x
              · subst e; rw [up2_same]; exact HPR.out.symm
              · rw [up2_node _ _ _ _ e]; exact HP.out y h1 (by omega)
            · intro y h1
              rw [← HG6.out, aloneG_pri, up2_node _ _ _ _ (by omega)]; exact HZ.out y (by omega)
          case measure => simp [intOf]; omega
      · have ex : x = n9 + 1 := by omega
        subst ex
        have hxI : ¬ ((n9 : Int) + 1) ≤ (n9 : Int) := by omega
        obtain ⟨av, ac, rfl⟩ := HS.out.rv.slice
        have q10 := HS.out.bg.q.cell 10
        have q11 := HS.out.bg.q.cell 11
        have q12 := HS.out.bg.q.cell 12
        have q13 := HS.out.bg.q.cell 13
        have z10 := HS.out.bg.q.frozen 10
        have z11 := HS.out.bg.q.frozen 11
        have z12 := HS.out.bg.q.frozen 12
        have z13 := HS.out.bg.q.frozen 13
        obtain ⟨nl, hnl⟩ : ∃ n, vs.length = n := ⟨_, rfl⟩
        rw [hnl] at HS y13
        clear hxn hnl
        go_wp2_with fail
        have HF := Lib.hid (HS.out.fin HC.out HN9.out (fun _ => rfl) (fun y hy => by rw [decide_eq_true (by omega)]; rfl))
        go_ret
        refine ⟨q, p, gb, cellsN V S T, pb, mb, vb, n9 + 1, n9 + 1, n9 + 1, g, .slice av nl ac, vs, rfl, ⟨HC.out.q, HC.out.p, HC.out.g, HC.out.m⟩, ?_, ?_, HF.out.2, fun y h1 h2 => HP.out y h1 (by have := HN9.out; omega)⟩
        · have := HF.out.1
          rw [show n9 + 1 - 1 = nN V S by have := HN9.out; omega] at this
          exact this
        · exact sing_fi fun y h1 h2 => HST.out y h1 (by have := HN9.out; omega)
end

end Go.Proofs.Ytgafnomfdnbblaa
