/- The document's book of cells: At. -/
import Derived.Test.YtaooglagddphnaaRefB
namespace Go.Proofs.Ytaooglagddphnaa
open Go.RowKit

set_option maxRecDepth 100000

/-- A book's parts. -/
structure BkV where
  V : Int
  S : Int
  T : Int
  gn : Nat
  nn : Nat
  cn : Nat
  cb : Nat
  cl : Nat
  cc : Nat
  wb : Nat
  ga : Nat
  na : Nat
  ca : Nat
abbrev vB (b : BkV) : Value := .agg #[.int .i64 b.V, .int .i64 b.S, .int .i64 b.T, .slice (some ⟨b.gn, 0, none⟩) b.nn b.cn, .slice (some ⟨b.cb, 0, none⟩) b.cl b.cc, .map (some b.wb), .slice (some ⟨b.ga, 0, none⟩) b.na b.ca]
abbrev bB (b : BkV) : Obj := .cells #[.int .i64 b.V, .int .i64 b.S, .int .i64 b.T, .slice (some ⟨b.gn, 0, none⟩) b.nn b.cn, .slice (some ⟨b.cb, 0, none⟩) b.cl b.cc, .map (some b.wb), .slice (some ⟨b.ga, 0, none⟩) b.na b.ca] 77
def BB (W : World) (x : Nat) (b : BkV) : Prop := Blk W x 77 #[.int .i64 b.V, .int .i64 b.S, .int .i64 b.T, .slice (some ⟨b.gn, 0, none⟩) b.nn b.cn, .slice (some ⟨b.cb, 0, none⟩) b.cl b.cc, .map (some b.wb), .slice (some ⟨b.ga, 0, none⟩) b.na b.ca]
/-- Where names lead. -/
def Gw (V S T : Int) (key val : Value) : Prop := ∃ (m : Nm) (k : Nat), (k : Int) < cn V S T ∧ CellAt V S T m k ∧ key = nmV m ∧ val = .int .i64 (k : Int)
/-- A book in memory; its cells. -/
structure Bk (W : World) (b : BkV) (cv : Nat → Int) : Prop where
  hR : Rt b.V b.S b.T
  hc : (b.cl : Int) = cn b.V b.S b.T
  ha : b.na = (nd b.V b.S).toNat
  wm : FM 114 W b.wb b.cl (Gw b.V b.S b.T)
  cs : ∀ k, k < b.cl → W.cell? ⟨b.cb, k, none⟩ = some (.int .u64 (cv k))
  al : ∀ k, k < b.na → ∃ m, NmAt W b.ga k m ∧ NodeAt b.V b.S m k
  lt : b.cb < W.heap.size ∧ b.ga < W.heap.size
  rg : ∀ k, 0 ≤ cv k ∧ cv k ≤ 18446744073709551615
  cp : b.cl ≤ 16384
section
variable {w w' W : World} {b : BkV} {cv : Nat → Int} {x k : Nat} {V S T kd y z : Int} {m : Nm}
theorem BB.new (w : World) (b : BkV) : BB (w.alloc (bB b)) w.heap.size b := Blk.new _ _ _
theorem BB.below (h : BB w x b) (hb : Below w.heap.size w w') : BB w' x b := Blk.below h hb (Blk.lt h)
theorem BB.lt (h : BB w x b) : x < w.heap.size := Blk.lt h
theorem BB.cells (h : BB w x b) : w.cell? ⟨x, 0, none⟩ = some (.int .i64 b.V) ∧ w.cell? ⟨x, 1, none⟩ = some (.int .i64 b.S) ∧ w.cell? ⟨x, 2, none⟩ = some (.int .i64 b.T) ∧ w.cell? ⟨x, 3, none⟩ = some (.slice (some ⟨b.gn, 0, none⟩) b.nn b.cn) ∧ w.cell? ⟨x, 4, none⟩ = some (.slice (some ⟨b.cb, 0, none⟩) b.cl b.cc) ∧ w.cell? ⟨x, 5, none⟩ = some (.map (some b.wb)) ∧ w.cell? ⟨x, 6, none⟩ = some (.slice (some ⟨b.ga, 0, none⟩) b.na b.ca) :=
  ⟨Blk.cell h 0, Blk.cell h 1, Blk.cell h 2, Blk.cell h 3, Blk.cell h 4, Blk.cell h 5, Blk.cell h 6⟩
theorem BB.rule (x : Nat) (b : BkV) : ∀ W : World, BB W x b → W.cell? ⟨x, 0, none⟩ = some (.int .i64 b.V) ∧ W.cell? ⟨x, 1, none⟩ = some (.int .i64 b.S) ∧ W.cell? ⟨x, 2, none⟩ = some (.int .i64 b.T) ∧ W.cell? ⟨x, 3, none⟩ = some (.slice (some ⟨b.gn, 0, none⟩) b.nn b.cn) ∧ W.cell? ⟨x, 4, none⟩ = some (.slice (some ⟨b.cb, 0, none⟩) b.cl b.cc) ∧ W.cell? ⟨x, 5, none⟩ = some (.map (some b.wb)) ∧ W.cell? ⟨x, 6, none⟩ = some (.slice (some ⟨b.ga, 0, none⟩) b.na b.ca) := fun _ h => h.cells
theorem Bk.below (h : Bk w b cv) (hb : Below w.heap.size w w') : Bk w' b cv :=
  ⟨h.hR, h.hc, h.ha, h.wm.keep (hb.block _ h.wm.lt), fun k hk => cell_later hb (h.cs k hk), fun k hk => by
    obtain ⟨m, h1, h2⟩ := h.al k hk
    exact ⟨m, h1.below hb h.lt.2, h2⟩, ⟨Nat.lt_of_lt_of_le h.lt.1 hb.size, Nat.lt_of_lt_of_le h.lt.2 hb.size⟩, h.rg, h.cp⟩
theorem Bk.alloc (h : Bk w b cv) (o : Obj) : Bk (w.alloc o) b cv := h.below ((Below.refl _ _).alloc (Nat.le_refl _) o)
theorem Bk.drew (h : Bk w b cv) : Bk w.drew b cv := h.below (Below.refl _ _).drew
theorem cellAt_in (hR : Rt V S T) (h : CellAt V S T m k) : in64 m.k ∧ in64 m.a ∧ in64 m.b ∧ in64 m.c := by
  have h1 := hR.v2
  have h2 := hR.s2
  have h3 := hR.t2
  have h4 := lv_bd V
  have h5 := (sizes hR).nd2
  unfold CellAt at h
  unfold in64
  rcases h with h | h | h | h | h | h | h | h | h | h <;> omega
/-- The place that a name has. -/
def nmI (V S T : Int) (m : Nm) : Int :=
  if m.k = 1 then m.a - 1 else if m.k = 2 then T else if m.k = 3 then T + 1 + m.a * 7 else if m.k = 4 then T + 1 + m.a * 7 + 1 else if m.k = 5 then T + 1 + m.a * 7 + 2 else
  if m.k = 6 then T + 1 + m.a * 7 + 3 + m.b else if m.k = 7 then T + 1 + m.a * 7 + 5 + m.b else if m.k = 8 then o3 S T + m.a * lv V + m.b else if m.k = 9 then o4 V S T + ahF V m.a + (m.b - m.a - 1) else o5 V S T + (m.a - 1) * 7 + m.b
theorem cellAt_nmI (h : CellAt V S T m k) : (k : Int) = nmI V S T m := by
  unfold CellAt at h
  unfold nmI
  rcases h with ⟨e, h⟩ | ⟨e, h⟩ | ⟨e, h⟩ | ⟨e, h⟩ | ⟨e, h⟩ | ⟨e, h⟩ | ⟨e, h⟩ | ⟨e, h⟩ | ⟨e, h⟩ | ⟨e, h⟩ <;> simp only [e] <;> simp <;> omega
theorem nmV_inj {m m' : Nm} (e : nmV m = nmV m') : m = m' := by
  injection e with e
  have e2 := congrArg Array.toList e
  simp at e2
  obtain ⟨a, b, c, d⟩ := m
  obtain ⟨a', b', c', d'⟩ := m'
  simp at e2
  obtain ⟨rfl, rfl, rfl, rfl⟩ := e2
  rfl
theorem at_some (B : Bk w b cv) (h : CellAt b.V b.S b.T ⟨kd, y, z, 0⟩ k) (hk : k < b.cl) :
    Calls Try.prog 68 #[vB b, .int .i64 kd, .int .i64 y, .int .i64 z] w fun e w' => e = .returned (.int .u64 (cv k)) ∧ Below w.heap.size w w' := by
  have HB := Lib.hid (B.alloc (bB b))
  obtain ⟨q1, q2, q3, q4⟩ := cellAt_in B.hR h
  obtain ⟨kl, hkey⟩ := keyN ⟨kd, y, z, 0⟩ q1 q2 q3 q4
  have hlk := HB.out.wm.look_some true keyedN Try.underlying75 hkey ⟨_, k, by have := B.hc; omega, h, rfl, rfl⟩
  have hcs := HB.out.cs k hk
  have hlt := HB.out.lt.1
  obtain ⟨c0, c1, c2, c3, c4, c5, c6⟩ := (BB.new w b).cells
  have kI : (k : Int) < (b.cl : Int) := by omega
  have kN : ¬ (b.cl : Int) ≤ (k : Int) := by omega
  have k0 : (0 : Int) ≤ (k : Int) := by omega
  clear B h q1 q2 q3 q4 hkey HB
  go_enter Try.func68, Try.ntmps68
  go_wp2_with fail
  go_ret
  exact ⟨rfl, (Below.refl _ _).alloc (Nat.le_refl _) _⟩
theorem at_none (B : Bk w b cv) (h : ∀ k, ¬ CellAt b.V b.S b.T ⟨kd, y, z, 0⟩ k) (q1 : in64 kd) (q2 : in64 y) (q3 : in64 z) :
    Calls Try.prog 68 #[vB b, .int .i64 kd, .int .i64 y, .int .i64 z] w fun e w' => e = .returned (.int .u64 0) ∧ Below w.heap.size w w' := by
  have HB := Lib.hid (B.alloc (bB b))
  obtain ⟨kl, hkey⟩ := keyN ⟨kd, y, z, 0⟩ q1 q2 q3 (show in64 0 from ⟨by decide, by decide⟩)
  have hz : ∀ w : World, (zeroValue 3).run Try.prog w = .ok (.int .i64 0) w := fun w => by kernel_rfl
  have hlk := HB.out.wm.look_none true keyedN Try.underlying75 (hz _) hkey fun v ⟨m, k, _, h2, h3, _⟩ => h k (by rw [nmV_inj h3]; exact h2)
  have hlt := HB.out.lt.1
  obtain ⟨c0, c1, c2, c3, c4, c5, c6⟩ := (BB.new w b).cells
  clear B h q1 q2 q3 hkey HB
  go_enter Try.func68, Try.ntmps68
  go_wp2_with fail
  go_ret
  exact ⟨rfl, (Below.refl _ _).alloc (Nat.le_refl _) _⟩
end
end Go.Proofs.Ytaooglagddphnaa
