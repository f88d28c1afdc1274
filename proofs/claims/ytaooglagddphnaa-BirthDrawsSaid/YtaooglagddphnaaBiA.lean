/- A node alone, beside pointer cells whose words are known exactly. Printed by wip/tools/bia.py. -/
import Derived.Test.YtaooglagddphnaaZC
namespace Go.Proofs.Ytaooglagddphnaa
open Go.RowKit

set_option maxRecDepth 100000

section
variable {V S T : Int} {f : Nat → Int} {g : Mg9} {w w' : World} {p gb cap m m' : Nat}
/-- The cells' numbers, and what the nodes have. -/
structure Rlf (V S T : Int) (f : Nat → Int) (g : Mg9) : Prop where
  z : ∀ k, g 0 k = 0
  c : ∀ x k, 1 ≤ x → x ≤ nN V S → 3 ≤ k → k ≤ 6 → f (cN V S T x k) = (g x k : Int)
  a : ∀ x, 1 ≤ x → x ≤ nN V S → isP V x = false → f (cN V S T x 2) = (g x 2 : Int)
  p : ∀ x, 1 ≤ x → x ≤ nN V S → isP V x = true → rightV (f (cN V S T x 2)) = true ∧ rN (f (cN V S T x 2)) = (g x 2 : Int)
  b : ∀ x, x ≤ nN V S → g x 2 ≤ nN V S ∧ g x 3 ≤ nN V S ∧ g x 4 ≤ nN V S
  o : ∀ i, (∀ x k, 1 ≤ x → x ≤ nN V S → 2 ≤ k → k ≤ 6 → i ≠ cN V S T x k) → f i = (g (nN V S + 1 + i) 5 : Int)
  e : ∀ x, 1 ≤ x → x ≤ nN V S → isP V x = true → g x 8 = 1 → f (cN V S T x 2) = (g x 7 : Int)

/-- Trees in memory: an arena, its counts' bound, what its nodes have. -/
structure TMf (w : World) (V S T : Int) (p gb cap m : Nat) (g : Mg9) : Prop where
  hR : Rt V S T
  ar : ∃ c f, Ar w p gb (cellsN V S T) cap c f ∧ CB c m ∧ Rlf V S T f g

theorem TMf.z (h : TMf w V S T p gb cap m g) (k : Nat) : g 0 k = 0 := by obtain ⟨_, _, _, _, r⟩ := h.ar; exact r.z k

theorem TMf.b (h : TMf w V S T p gb cap m g) {x : Nat} (hx : x ≤ nN V S) : g x 2 ≤ nN V S ∧ g x 3 ≤ nN V S ∧ g x 4 ≤ nN V S := by obtain ⟨_, _, _, _, r⟩ := h.ar; exact r.b x hx

theorem TMf.fit (h : TMf w V S T p gb cap m g) {x k : Nat} (hx : x ≤ nN V S) (h1 : 3 ≤ k) (h2 : k ≤ 6) : g x k ≤ 18446744073709551615 := by
  obtain ⟨c, f, A, _, r⟩ := h.ar
  by_cases h0 : x = 0
  · subst h0; rw [r.z]; omega
  · have e := r.c x k (by omega) hx h1 h2
    have := A.fit (cN V S T x k) (cN_lt h.hR (by omega) hx (by omega))
    omega

theorem TMf.below (h : TMf w V S T p gb cap m g) (hb : Below w.heap.size w w') : TMf w' V S T p gb cap m g := by
  obtain ⟨c, f, A, C, r⟩ := h.ar
  exact ⟨h.hR, c, f, A.below hb (Nat.le_refl _), C, r⟩

theorem TMf.more (h : TMf w V S T p gb cap m g) (hm : m ≤ m') : TMf w V S T p gb cap m' g := by
  obtain ⟨c, f, A, C, r⟩ := h.ar
  exact ⟨h.hR, c, f, A, C.more hm, r⟩

theorem TMf.drew (h : TMf w V S T p gb cap m g) : TMf w.drew V S T p gb cap m g := h.below (Below.refl _ _).drew

theorem TMf.alloc (h : TMf w V S T p gb cap m g) (o : Obj) : TMf (w.alloc o) V S T p gb cap m g := h.below ((Below.refl _ _).alloc (Nat.le_refl _) o)

theorem TMf.p_lt (h : TMf w V S T p gb cap m g) : p < w.heap.size := by obtain ⟨_, _, A, _⟩ := h.ar; exact A.p_lt

theorem TMf.g_lt (h : TMf w V S T p gb cap m g) : gb < w.heap.size := by obtain ⟨_, _, A, _⟩ := h.ar; exact A.g_lt

theorem TMf.ne (h : TMf w V S T p gb cap m g) : p ≠ gb := by obtain ⟨_, _, A, _⟩ := h.ar; exact A.ne_

theorem TMf.blk (h : TMf w V S T p gb cap m g) : (∃ cs, Blk w p 118 cs) ∧ ∃ zs, Blk w gb 51 zs := by
  obtain ⟨_, _, A, _⟩ := h.ar
  obtain ⟨zs, hz, _⟩ := A.cells
  exact ⟨⟨_, A.own⟩, ⟨zs, hz⟩⟩

theorem Blk.treapf {q : Nat} {ty : TypeId} {cs : Array Value} (h : Blk w q ty cs) (A : TMf w V S T p gb cap m g) (ho : Only p gb w w') (h1 : ty ≠ 118) (h2 : ty ≠ 51) : Blk w' q ty cs := by
  obtain ⟨⟨_, h3⟩, ⟨_, h4⟩⟩ := A.blk
  exact h.only ho (h.ne_ h3 h1) (h.ne_ h4 h2)

theorem TMf.far (h : TMf w V S T p gb cap m g) {q j : Nat} {ty : TypeId} {cs : Array Value} (hq : Blk w q ty cs) (h1 : ty ≠ 118) (h2 : ty ≠ 51) (u : Value) : TMf (w.setCell ⟨q, j, none⟩ u) V S T p gb cap m g := by
  obtain ⟨⟨_, h3⟩, ⟨_, h4⟩⟩ := h.blk
  obtain ⟨c, f, A, C, r⟩ := h.ar
  exact ⟨h.hR, c, f, A.q_far (hq.ne_ h3 h1) (hq.ne_ h4 h2) u, C, r⟩

def TBf (w : World) (b : Nat) (V S T : Int) (p : Nat) : Prop := Blk w b 32 #[.int .i64 V, .int .i64 S, .int .i64 T, .iface 84 (pmV p), .int .i64 1, .int .i64 0]

theorem TBf.new (w : World) (V S T : Int) (p : Nat) : TBf (w.alloc (.cells #[.int .i64 V, .int .i64 S, .int .i64 T, .iface 84 (pmV p), .int .i64 1, .int .i64 0] 32)) w.heap.size V S T p := Blk.new _ _ _

theorem TBf.lt {b : Nat} (h : TBf w b V S T p) : b < w.heap.size := Blk.lt h

theorem TBf.below {b : Nat} (h : TBf w b V S T p) (hb : Below w.heap.size w w') : TBf w' b V S T p := Blk.below h hb (Blk.lt h)

theorem TBf.only {b : Nat} (h : TBf w b V S T p) (A : TMf w V S T p gb cap m g) (ho : Only p gb w w') : TBf w' b V S T p := Blk.treapf h A ho (by decide) (by decide)

theorem TBf.drew {b : Nat} (h : TBf w b V S T p) : TBf w.drew b V S T p := h

theorem TBf.alloc {b : Nat} (h : TBf w b V S T p) (o : Obj) : TBf (w.alloc o) b V S T p := Blk.alloc h o

theorem TBf.cells {b : Nat} (h : TBf w b V S T p) : w.cell? ⟨b, 0, none⟩ = some (.int .i64 V) ∧ w.cell? ⟨b, 1, none⟩ = some (.int .i64 S) ∧ w.cell? ⟨b, 2, none⟩ = some (.int .i64 T) ∧ w.cell? ⟨b, 3, none⟩ = some (.iface 84 (pmV p)) ∧ w.cell? ⟨b, 4, none⟩ = some (.int .i64 1) ∧ w.cell? ⟨b, 5, none⟩ = some (.int .i64 0) :=
  ⟨Blk.cell h 0, Blk.cell h 1, Blk.cell h 2, Blk.cell h 3, Blk.cell h 4, Blk.cell h 5⟩

theorem Rlf.store (r : Rlf V S T f g) (hR : Rt V S T) {x k v : Nat} (h1 : 1 ≤ x) (h2 : x ≤ nN V S) (h3 : 3 ≤ k) (h4 : k ≤ 6) (hv : k ≤ 4 → v ≤ nN V S) : Rlf V S T (upd f (cN V S T x k) (v : Int)) (up2 g x k v) := by
  have ot : ∀ y, 1 ≤ y → upd f (cN V S T x k) (v : Int) (cN V S T y 2) = f (cN V S T y 2) := fun y hy => upd_other _ _ fun e => by have := (cN_inj hR hy h1 (by omega) (by omega) e).2; omega
  refine ⟨fun j => (up2_node _ _ _ _ (by omega)).trans (r.z j), fun y j y1 y2 j1 j2 => ?_, fun y y1 y2 hy => ?_, fun y y1 y2 hy => ?_, up2_b r.b hv, fun i hi => (upd_other _ _ (hi x k h1 h2 (by omega) h4)).trans ((r.o i hi).trans (by rw [up2_node _ _ _ _ (by omega)])), fun y y1 y2 hy h8 => by rw [up2_field _ _ _ _ (by omega)] at h8; rw [ot y y1, up2_field _ _ _ _ (by omega)]; exact r.e y y1 y2 hy h8⟩
  · by_cases e : y = x ∧ j = k
    · obtain ⟨rfl, rfl⟩ := e; rw [upd_same, up2_same]
    · rw [upd_other _ _ fun e' => e (cN_inj hR y1 h1 (by omega) (by omega) e')]
      unfold up2; rw [if_neg e]; exact r.c y j y1 y2 j1 j2
  · rw [ot y y1, up2_field _ _ _ _ (by omega)]; exact r.a y y1 y2 hy
  · rw [ot y y1, up2_field _ _ _ _ (by omega)]; exact r.p y y1 y2 hy

theorem Rlf.par_a (r : Rlf V S T f g) (hR : Rt V S T) {x v : Nat} (h1 : 1 ≤ x) (h2 : x ≤ nN V S) (hp : isP V x = false) (hv : v ≤ nN V S) : Rlf V S T (upd f (cN V S T x 2) (v : Int)) (up2 g x 2 v) := by
  refine ⟨fun j => (up2_node _ _ _ _ (by omega)).trans (r.z j), fun y j y1 y2 j1 j2 => ?_, fun y y1 y2 hy => ?_, fun y y1 y2 hy => ?_, up2_b r.b (fun _ => hv), fun i hi => (upd_other _ _ (hi x 2 h1 h2 (by omega) (by omega))).trans ((r.o i hi).trans (by rw [up2_node _ _ _ _ (by omega)])), fun y y1 y2 hy h8 => by
    have e : y ≠ x := fun e => by rw [e, hp] at hy; cases hy
    rw [up2_node _ _ _ _ e] at h8
    rw [upd_other _ _ fun e' => e (cN_inj hR y1 h1 (by omega) (by omega) e').1, up2_node _ _ _ _ e]; exact r.e y y1 y2 hy h8⟩
  · rw [upd_other _ _ fun e => by have := (cN_inj hR y1 h1 (by omega) (by omega) e).2; omega, up2_field _ _ _ _ (by omega)]; exact r.c y j y1 y2 j1 j2
  · by_cases e : y = x
    · subst e; rw [upd_same, up2_same]
    · rw [upd_other _ _ fun e' => e (cN_inj hR y1 h1 (by omega) (by omega) e').1, up2_node _ _ _ _ e]; exact r.a y y1 y2 hy
  · have e : y ≠ x := fun e => by rw [e, hp] at hy; cases hy
    rw [upd_other _ _ fun e' => e (cN_inj hR y1 h1 (by omega) (by omega) e').1, up2_node _ _ _ _ e]; exact r.p y y1 y2 hy

theorem Rlf.par_p (r : Rlf V S T f g) (hR : Rt V S T) {x v : Nat} {W : Int} (h1 : 1 ≤ x) (h2 : x ≤ nN V S) (hp : isP V x = true) (hv : v ≤ nN V S) (hw : rightV W = true) (hn : rN W = (v : Int)) (h9 : g x 8 ≠ 1) : Rlf V S T (upd f (cN V S T x 2) W) (up2 g x 2 v) := by
  refine ⟨fun j => (up2_node _ _ _ _ (by omega)).trans (r.z j), fun y j y1 y2 j1 j2 => ?_, fun y y1 y2 hy => ?_, fun y y1 y2 hy => ?_, up2_b r.b (fun _ => hv), fun i hi => (upd_other _ _ (hi x 2 h1 h2 (by omega) (by omega))).trans ((r.o i hi).trans (by rw [up2_node _ _ _ _ (by omega)])), fun y y1 y2 hy h8 => by
    by_cases e : y = x
    · subst e; rw [up2_field _ _ _ _ (by omega)] at h8; exact absurd h8 h9
    · rw [up2_node _ _ _ _ e] at h8
      rw [upd_other _ _ fun e' => e (cN_inj hR y1 h1 (by omega) (by omega) e').1, up2_node _ _ _ _ e]; exact r.e y y1 y2 hy h8⟩
  · rw [upd_other _ _ fun e => by have := (cN_inj hR y1 h1 (by omega) (by omega) e).2; omega, up2_field _ _ _ _ (by omega)]; exact r.c y j y1 y2 j1 j2
  · have e : y ≠ x := fun e => by rw [e, hp] at hy; cases hy
    rw [upd_other _ _ fun e' => e (cN_inj hR y1 h1 (by omega) (by omega) e').1, up2_node _ _ _ _ e]; exact r.a y y1 y2 hy
  · by_cases e : y = x
    · subst e; rw [upd_same, up2_same]; exact ⟨hw, hn⟩
    · rw [upd_other _ _ fun e' => e (cN_inj hR y1 h1 (by omega) (by omega) e').1, up2_node _ _ _ _ e]; exact r.p y y1 y2 hy

/-- What a call that loads and stores leaves. -/
def Didf (V S T : Int) (p gb cap m : Nat) (g : Mg9) (r : Value) (w : World) (e : Ending) (w' : World) : Prop := e = .returned r ∧ TMf w' V S T p gb cap m g ∧ Only p gb w w'

theorem tloadf (A : TMf w V S T p gb cap m g) {x k : Nat} {kI : Int} (hk : kI = (k : Int)) (hx : x ≤ nN V S) (hk7 : 2 ≤ k ∧ k ≤ 6) (hp : k = 2 → isP V x = false) (hm : m ≤ 100000000) :
    Calls Try.prog 124 #[vTr V S T p, .int .i64 (x : Int), .int .i64 kI] w (Didf V S T p gb cap (m + 1) g (.int .u64 (g x k : Int)) w) := by
  subst hk
  have ml := methp_load
  have nl := nilp_load
  have xI : (x : Int) ≤ 560 := by have := nN_le A.hR; omega
  have HA := Lib.hid A
  have HX := Lib.hid hx
  have HP := Lib.hid hp
  have HZ := Lib.hid (A.z k)
  clear A hx hp
  by_cases h0 : x = 0
  · have HF := Lib.hid (field_none V S T h0 (k : Int))
    have e0 : g x k = 0 := by rw [h0]; exact HZ.out
    have HE := Lib.hid e0
    have HH := Lib.hid h0
    clear h0 e0
    go_enter Try.func124, Try.ntmps124
    go_wp2_with fail
    refine (field_yes V S T (x : Int) (k : Int) HA.out.hR (by omega) (by omega) _).mono ?_; rintro e w1 ⟨rfl, hb1⟩; rw [HF.out]
    have HB := Lib.hid (keepL ((Below.refl _ _).alloc (Nat.le_refl _) _) hb1)
    clear hb1
    go_wp2_with fail
    rw [HE.out]
    go_ret
    exact ⟨rfl, (HA.out.below HB.out).more (by omega), Only.of_below HB.out⟩
  · have hx1 : 1 ≤ x := by omega
    have HF := Lib.hid (field_cN HA.out.hR hx1 HX.out (k := k) (by omega))
    have HL := Lib.hid (cN_lt HA.out.hR hx1 HX.out (k := k) (by omega))
    obtain ⟨c, f, A, C, r⟩ := HA.out.ar
    have ev : f (cN V S T x k) = (g x k : Int) := by
      by_cases h2 : k = 2
      · subst h2; exact r.a x hx1 HX.out (HP.out rfl)
      · exact r.c x k hx1 HX.out (by omega) (by omega)
    have HE := Lib.hid ev
    have HAr := Lib.hid A
    have HC := Lib.hid C
    have Hr := Lib.hid r
    clear ev h0 A C r
    generalize hq : cN V S T x k = q at HF HL HE
    clear hq
    go_enter Try.func124, Try.ntmps124
    go_wp2_with fail
    refine (field_yes V S T (x : Int) (k : Int) HA.out.hR (by omega) (by omega) _).mono ?_; rintro e w1 ⟨rfl, hb1⟩; rw [HF.out]
    obtain ⟨hc, hf⟩ := bcellL hb1
    have HB := Lib.hid (keepL ((Below.refl _ _).alloc (Nat.le_refl _) _) hb1)
    have HA1 := Lib.hid (HAr.out.below HB.out (Nat.le_refl _))
    have hlt := hb1.size
    clear hb1
    go_wp2_with fail
    refine (pm_load HA1.out HL.out HC.out hm).mono ?_; rintro e w2 ⟨rfl, A2, O2⟩; rw [HE.out]
    have HA2 := Lib.hid A2
    have HO2 := Lib.hid ((Only.of_below (p := p) (g := gb) HB.out).trans O2)
    clear A2 O2 hc hf
    go_wp2_with fail
    go_ret
    exact ⟨rfl, ⟨HA.out.hR, _, _, HA2.out, HC.out.upd 0, Hr.out⟩, HO2.out⟩

theorem tstoref (A : TMf w V S T p gb cap m g) {x k v : Nat} {kI : Int} (hk : kI = (k : Int)) (hx : x ≤ nN V S) (hx1 : 1 ≤ x) (hk7 : 2 ≤ k ∧ k ≤ 6) (hp : k = 2 → isP V x = false) (hv : k ≤ 4 → v ≤ nN V S) (hv64 : v ≤ 18446744073709551615) (hm : m ≤ 100000000) :
    Calls Try.prog 97 #[vTr V S T p, .int .i64 (x : Int), .int .i64 kI, .int .u64 (v : Int)] w (Didf V S T p gb cap (m + 1) (up2 g x k v) (.tuple #[]) w) := by
  subst hk
  have ml := methp_store
  have nl := nilp_store
  have xI : (x : Int) ≤ 560 := by have := nN_le A.hR; omega
  have HA := Lib.hid A
  have HX := Lib.hid hx
  have HF := Lib.hid (field_cN A.hR hx1 hx (k := k) (by omega))
  have HL := Lib.hid (cN_lt A.hR hx1 hx (k := k) (by omega))
  obtain ⟨c, f, A', C, r⟩ := A.ar
  have r' : Rlf V S T (upd f (cN V S T x k) (v : Int)) (up2 g x k v) := by
    by_cases h2 : k = 2
    · subst h2; exact r.par_a A.hR hx1 hx (hp rfl) (hv (by omega))
    · exact r.store A.hR hx1 hx (by omega) (by omega) hv
  have HAr := Lib.hid A'
  have HC := Lib.hid C
  have Hr := Lib.hid r'
  clear A A' C r r' hx hp
  generalize hq : cN V S T x k = q at HF HL Hr
  clear hq
  go_enter Try.func97, Try.ntmps97
  go_wp2_with fail
  refine (field_yes V S T (x : Int) (k : Int) HA.out.hR (by omega) (by omega) _).mono ?_; rintro e w1 ⟨rfl, hb1⟩; rw [HF.out]
  obtain ⟨hc, hf⟩ := bcellL hb1
  have HB := Lib.hid (keepL ((Below.refl _ _).alloc (Nat.le_refl _) _) hb1)
  have HA1 := Lib.hid (HAr.out.below HB.out (Nat.le_refl _))
  have hlt := hb1.size
  clear hb1
  go_wp2_with fail
  refine (pm_store HA1.out HL.out (by omega) (by omega) HC.out hm).mono ?_; rintro e w2 ⟨rfl, A2, O2⟩
  have HA2 := Lib.hid A2
  have HO2 := Lib.hid ((Only.of_below (p := p) (g := gb) HB.out).trans O2)
  clear A2 O2 hc hf
  go_wp2_with fail
  go_end0
  exact ⟨rfl, ⟨HA.out.hR, _, _, HA2.out, HC.out.upd 1, Hr.out⟩, HO2.out⟩

theorem tb_rulef (b : Nat) (V S T : Int) (p : Nat) : ∀ W : World, TBf W b V S T p → W.cell? ⟨b, 0, none⟩ = some (.int .i64 V) ∧ W.cell? ⟨b, 1, none⟩ = some (.int .i64 S) ∧ W.cell? ⟨b, 2, none⟩ = some (.int .i64 T) ∧ W.cell? ⟨b, 3, none⟩ = some (.iface 84 (pmV p)) ∧ W.cell? ⟨b, 4, none⟩ = some (.int .i64 1) ∧ W.cell? ⟨b, 5, none⟩ = some (.int .i64 0) := fun _ h => h.cells

theorem tchildf (A : TMf w V S T p gb cap m g) {x k : Nat} {kI : Int} (hk : kI = (k : Int)) (hx : x ≤ nN V S) (hk7 : k = 3 ∨ k = 4) (hm : m ≤ 100000000) :
    Calls Try.prog 139 #[vTr V S T p, .int .i64 (x : Int), .int .i64 kI] w (Didf V S T p gb cap (m + 1) g (.int .i64 (g x k : Int)) w) := by
  have hy : g x k ≤ nN V S := by rcases hk7 with rfl | rfl; exact (A.b hx).2.1; exact (A.b hx).2.2
  have yI : ((g x k : Nat) : Int) ≤ 560 := by have := nN_le A.hR; omega
  have hw : IntKind.i64.wrap ((g x k : Nat) : Int) = ((g x k : Nat) : Int) := IntWalk.i64_in _ (by omega)
  have HK := Lib.hid hk
  have HX := Lib.hid hx
  have HR := Lib.hid A.hR
  have HY := Lib.hid hy
  have HA := Lib.hid A
  have H7 : Hid (2 ≤ k ∧ k ≤ 6) := Lib.hid (by omega)
  have HP : Hid (k = 2 → isP V x = false) := Lib.hid fun e => by omega
  obtain ⟨y, hyv⟩ : ∃ y, g x k = y := ⟨_, rfl⟩
  have HV := Lib.hid hyv
  rw [hyv] at yI hw
  rw [hyv] at HY
  rw [hyv]
  clear A hx hk hk7 hy hyv
  go_enter Try.func139, Try.ntmps139
  go_wp2_with fail
  have HT : Hid (TBf (w.alloc (.cells #[.int .i64 V, .int .i64 S, .int .i64 T, .iface 84 (pmV p), .int .i64 1, .int .i64 0] 32)) w.heap.size V S T p) := Lib.hid (TBf.new _ _ _ _ _)
  have HA0 := Lib.hid (HA.out.alloc (.cells #[.int .i64 V, .int .i64 S, .int .i64 T, .iface 84 (pmV p), .int .i64 1, .int .i64 0] 32))
  have HO0 := Lib.hid ((Only.refl p gb w).alloc (.cells #[.int .i64 V, .int .i64 S, .int .i64 T, .iface 84 (pmV p), .int .i64 1, .int .i64 0] 32))
  have HBL : Hid (w.heap.size < (w.alloc (.cells #[.int .i64 V, .int .i64 S, .int .i64 T, .iface 84 (pmV p), .int .i64 1, .int .i64 0] 32)).heap.size) := Lib.hid (by simp)
  generalize hwb : w.heap.size = b at HT HBL ⊢
  generalize hW : w.alloc (.cells #[.int .i64 V, .int .i64 S, .int .i64 T, .iface 84 (pmV p), .int .i64 1, .int .i64 0] 32) = W at HT HA0 HO0 HBL ⊢
  clear hW
  have htb := tb_rulef b V S T p
  obtain ⟨y0, y1, y2, y3, y4, y5⟩ := HT.out.cells
  have hlt := HT.out.lt
  have HTd := Lib.hid HT.out.drew
  have HAd := Lib.hid HA0.out.drew
  have HOd := Lib.hid HO0.out.drew
  go_region_held3 (fun W => TBf W b V S T p) (first | (with_reducible assumption) | (with_reducible exact TBf.below (by assumption) hb1) | (with_reducible exact TBf.only (by assumption) (Hid.out (by assumption : Hid (TMf _ V S T p gb cap (m) g))) O2) | (with_reducible exact HTd.out))
    (first
      | (go_at_call 143; ((with_reducible refine (tnode_any HR.out HY.out p _).mono ?_); rintro e w' ⟨rfl, hb1⟩; have HA3 := Lib.hid (TMf.below (Hid.out (by assumption : Hid (TMf _ V S T p gb cap (m + 1) g))) hb1); have HO3 := Lib.hid (Only.trans (Hid.out (by assumption : Hid (Only p gb w _))) (Only.of_below hb1))))
      | (go_at_call 124; ((with_reducible refine (tloadf (Hid.out (by assumption : Hid (TMf _ V S T p gb cap (m) g))) HK.out HX.out H7.out HP.out hm).mono ?_); rintro e w2 ⟨rfl, A2, O2⟩; have HA2 := Lib.hid A2; have HO2 := Lib.hid (Only.trans (Hid.out (by assumption : Hid (Only p gb w _))) O2); rw [HV.out])))
  go_wp2_with fail
  go_ret
  exact ⟨rfl, HA3.out, HO3.out⟩

theorem tload6f (A : TMf w V S T p gb cap m g) {x : Nat} (hx : x ≤ nN V S) (hm : m ≤ 100000000) :
    Calls Try.prog 124 #[vTr V S T p, .int .i64 (x : Int), .int .i64 6] w (Didf V S T p gb cap (m + 1) g (.int .u64 (g x 6 : Int)) w) := tloadf (k := 6) A kI6 hx (by omega) (fun e => absurd e (by omega)) hm

theorem tchild3f (A : TMf w V S T p gb cap m g) {x : Nat} (hx : x ≤ nN V S) (hm : m ≤ 100000000) :
    Calls Try.prog 139 #[vTr V S T p, .int .i64 (x : Int), .int .i64 3] w (Didf V S T p gb cap (m + 1) g (.int .i64 (g x 3 : Int)) w) := tchildf (k := 3) A kI3 hx (.inl rfl) hm

theorem tchild4f (A : TMf w V S T p gb cap m g) {x : Nat} (hx : x ≤ nN V S) (hm : m ≤ 100000000) :
    Calls Try.prog 139 #[vTr V S T p, .int .i64 (x : Int), .int .i64 4] w (Didf V S T p gb cap (m + 1) g (.int .i64 (g x 4 : Int)) w) := tchildf (k := 4) A kI4 hx (.inr rfl) hm

set_option maxHeartbeats 1000000 in
theorem tsetParentf (A : TMf w V S T p gb cap m g) {x v : Nat} (hx : x ≤ nN V S) (hv : v ≤ nN V S) (h9 : isP V x = true → g x 8 ≠ 1) (hm : m ≤ 99999990) :
    Calls Try.prog 98 #[vTr V S T p, .int .i64 (x : Int), .int .i64 (v : Int)] w (Didf V S T p gb cap (m + 2) (setP g x v) (.tuple #[]) w) := by
  have xI : (x : Int) ≤ 560 := by have := nN_le A.hR; omega
  have vI : (v : Int) ≤ 560 := by have := nN_le A.hR; omega
  have hw : IntKind.u64.wrap (v : Int) = (v : Int) := IntWalk.u64_in _ (by omega)
  have HX := Lib.hid hx
  have HR := Lib.hid A.hR
  have HV := Lib.hid hv
  have HA := Lib.hid A
  by_cases hP : isP V x = true
  · have hx1 : 1 ≤ x := by have := (of_decide_eq_true hP).1; omega
    have HPt := Lib.hid hP
    have HF : Hid (fieldF V S T (x : Int) 2 = (cN V S T x 2 : Int)) := Lib.hid (field_cN HR.out hx1 hx (k := 2) (by omega))
    have HL := Lib.hid (cN_lt HR.out hx1 hx (k := 2) (by omega))
    have HI : Hid (∀ f, Rlf V S T f g → rightV (f (cN V S T x 2)) = true) := Lib.hid fun f r => (r.p x hx1 hx hP).1
    have HN : Hid (∀ f, Rlf V S T f g → Rlf V S T (upd f (cN V S T x 2) (bitsW (wrO (rO (f (cN V S T x 2))) (rN (f (cN V S T x 2))) (rT (f (cN V S T x 2))) (rG (f (cN V S T x 2))) 1 0) (v : Int) 1 0)) (setP g x v)) := Lib.hid fun f r => by
      have h := isW_bits (isW_wrO (v := f (cN V S T x 2)) (y := (v : Int)) (by omega) (by omega))
      rw [show setP g x v = up2 g x 2 v from if_neg (by omega)]
      exact r.par_p HR.out hx1 hx hP hv h.2 h.1.n (h9 hP)
    clear hx hv A hP h9
    generalize hq : cN V S T x 2 = q at HF HL HI HN
    clear hq
    go_enter Try.func98, Try.ntmps98
    go_wp2_with fail
    have HT : Hid (TBf (w.alloc (.cells #[.int .i64 V, .int .i64 S, .int .i64 T, .iface 84 (pmV p), .int .i64 1, .int .i64 0] 32)) w.heap.size V S T p) := Lib.hid (TBf.new _ _ _ _ _)
    have HA0 := Lib.hid (HA.out.alloc (.cells #[.int .i64 V, .int .i64 S, .int .i64 T, .iface 84 (pmV p), .int .i64 1, .int .i64 0] 32))
    have HO0 := Lib.hid ((Only.refl p gb w).alloc (.cells #[.int .i64 V, .int .i64 S, .int .i64 T, .iface 84 (pmV p), .int .i64 1, .int .i64 0] 32))
    have HBL : Hid (w.heap.size < (w.alloc (.cells #[.int .i64 V, .int .i64 S, .int .i64 T, .iface 84 (pmV p), .int .i64 1, .int .i64 0] 32)).heap.size) := Lib.hid (by simp)
    generalize hwb : w.heap.size = b at HT HBL ⊢
    generalize hW : w.alloc (.cells #[.int .i64 V, .int .i64 S, .int .i64 T, .iface 84 (pmV p), .int .i64 1, .int .i64 0] 32) = W at HT HA0 HO0 HBL ⊢
    clear hW
    have htb := tb_rulef b V S T p
    obtain ⟨y0, y1, y2, y3, y4, y5⟩ := HT.out.cells
    have hlt := HT.out.lt
    refine (isPointer_any HR.out HX.out p _).mono ?_; rintro e w1 ⟨rfl, hb1⟩; rw [HPt.out]
    replace HT := Lib.hid (HT.out.below hb1)
    replace HA0 := Lib.hid (HA0.out.below hb1)
    replace HO0 := Lib.hid (HO0.out.trans (Only.of_below hb1))
    clear hb1 y0 y1 y2 y3 y4 y5 hlt
    obtain ⟨y0, y1, y2, y3, y4, y5⟩ := HT.out.cells
    have hlt := HT.out.lt
    go_wp2_with fail
    obtain ⟨c, f, A1, C1, r1⟩ := HA0.out.ar
    have HAr := Lib.hid A1.drew
    have HC := Lib.hid C1
    have Hr := Lib.hid r1
    have HW := Lib.hid (isW_wrO (v := f q) (y := (v : Int)) (by omega) (by omega))
    clear A1 C1 r1
    have HTd := Lib.hid HT.out.drew
    have HAd := Lib.hid HA0.out.drew
    have HOd := Lib.hid HO0.out.drew
    go_region_held3 (fun W => TBf W b V S T p) (first | (with_reducible assumption) | (with_reducible exact TBf.below (by assumption) hb1) | (with_reducible exact TBf.only (by assumption) (Hid.out (by assumption : Hid (TMf _ V S T p gb cap m g))) O2) | (with_reducible exact HTd.out))
      (first
        | (go_at_call 37; ((with_reducible refine (field_yes V S T (x : Int) 2 HR.out (by omega) (by omega) _).mono ?_); rintro e w' ⟨rfl, hb1⟩; rw [HF.out]; have HAf := Lib.hid (TMf.below (Hid.out (by assumption : Hid (TMf _ V S T p gb cap m g))) hb1); have HOf := Lib.hid (Only.trans (Hid.out (by assumption : Hid (Only p gb w _))) (Only.of_below hb1)); have HAr1 := Lib.hid (HAr.out.below hb1 (Nat.le_refl _))))
        | (go_at_call 126; ((with_reducible refine (write_yes HAr1.out HL.out (isW_any _) (HI.out f Hr.out) HW.out HC.out hm).mono ?_); rintro e w2 ⟨rfl, A2, O2⟩; have HA2 : Hid (TMf w2 V S T p gb cap (m + 2) (setP g x v)) := Lib.hid ⟨HR.out, _, _, A2, (HC.out.upd 0).upd 1, HN.out f Hr.out⟩; have HO2 := Lib.hid (Only.trans (Hid.out (by assumption : Hid (Only p gb w _))) O2))))
    go_wp2_with fail
    go_end0
    exact ⟨rfl, HA2.out, HO2.out⟩
  · have hP' : isP V x = false := by simpa using hP
    have HPt := Lib.hid hP'
    by_cases h0 : x = 0
    · have HE : Hid (setP g x v = g) := Lib.hid (if_pos h0)
      have HF := Lib.hid (field_none V S T h0 2)
      rw [HE.out]
      clear hx hv A hP h9 hP' h0
      go_enter Try.func98, Try.ntmps98
      go_wp2_with fail
      have HT : Hid (TBf (w.alloc (.cells #[.int .i64 V, .int .i64 S, .int .i64 T, .iface 84 (pmV p), .int .i64 1, .int .i64 0] 32)) w.heap.size V S T p) := Lib.hid (TBf.new _ _ _ _ _)
      have HA0 := Lib.hid (HA.out.alloc (.cells #[.int .i64 V, .int .i64 S, .int .i64 T, .iface 84 (pmV p), .int .i64 1, .int .i64 0] 32))
      have HO0 := Lib.hid ((Only.refl p gb w).alloc (.cells #[.int .i64 V, .int .i64 S, .int .i64 T, .iface 84 (pmV p), .int .i64 1, .int .i64 0] 32))
      have HBL : Hid (w.heap.size < (w.alloc (.cells #[.int .i64 V, .int .i64 S, .int .i64 T, .iface 84 (pmV p), .int .i64 1, .int .i64 0] 32)).heap.size) := Lib.hid (by simp)
      generalize hwb : w.heap.size = b at HT HBL ⊢
      generalize hW : w.alloc (.cells #[.int .i64 V, .int .i64 S, .int .i64 T, .iface 84 (pmV p), .int .i64 1, .int .i64 0] 32) = W at HT HA0 HO0 HBL ⊢
      clear hW
      have htb := tb_rulef b V S T p
      obtain ⟨y0, y1, y2, y3, y4, y5⟩ := HT.out.cells
      have hlt := HT.out.lt
      refine (isPointer_any HR.out HX.out p _).mono ?_; rintro e w1 ⟨rfl, hb1⟩; rw [HPt.out]
      replace HT := Lib.hid (HT.out.below hb1)
      replace HA0 := Lib.hid (HA0.out.below hb1)
      replace HO0 := Lib.hid (HO0.out.trans (Only.of_below hb1))
      clear hb1 y0 y1 y2 y3 y4 y5 hlt
      obtain ⟨y0, y1, y2, y3, y4, y5⟩ := HT.out.cells
      have hlt := HT.out.lt
      go_wp2_with fail
      refine (store_none HR.out HX.out HF.out p v _).mono ?_; rintro e w2 ⟨rfl, hb2⟩
      have HA2 := Lib.hid ((HA0.out.below hb2).more (m' := m + 2) (by omega))
      have HO2 := Lib.hid (HO0.out.trans (Only.of_below hb2))
      go_wp2_with fail
      go_end0
      exact ⟨rfl, HA2.out, HO2.out⟩
    · have HE : Hid (setP g x v = up2 g x 2 v) := Lib.hid (if_neg h0)
      have H0 : Hid (1 ≤ x) := Lib.hid (by omega)
      have H7 : Hid (v ≤ 18446744073709551615) := Lib.hid (by omega)
      rw [HE.out]
      clear hx hv A hP h9 hP' h0
      go_enter Try.func98, Try.ntmps98
      go_wp2_with fail
      have HT : Hid (TBf (w.alloc (.cells #[.int .i64 V, .int .i64 S, .int .i64 T, .iface 84 (pmV p), .int .i64 1, .int .i64 0] 32)) w.heap.size V S T p) := Lib.hid (TBf.new _ _ _ _ _)
      have HA0 := Lib.hid (HA.out.alloc (.cells #[.int .i64 V, .int .i64 S, .int .i64 T, .iface 84 (pmV p), .int .i64 1, .int .i64 0] 32))
      have HO0 := Lib.hid ((Only.refl p gb w).alloc (.cells #[.int .i64 V, .int .i64 S, .int .i64 T, .iface 84 (pmV p), .int .i64 1, .int .i64 0] 32))
      have HBL : Hid (w.heap.size < (w.alloc (.cells #[.int .i64 V, .int .i64 S, .int .i64 T, .iface 84 (pmV p), .int .i64 1, .int .i64 0] 32)).heap.size) := Lib.hid (by simp)
      generalize hwb : w.heap.size = b at HT HBL ⊢
      generalize hW : w.alloc (.cells #[.int .i64 V, .int .i64 S, .int .i64 T, .iface 84 (pmV p), .int .i64 1, .int .i64 0] 32) = W at HT HA0 HO0 HBL ⊢
      clear hW
      have htb := tb_rulef b V S T p
      obtain ⟨y0, y1, y2, y3, y4, y5⟩ := HT.out.cells
      have hlt := HT.out.lt
      refine (isPointer_any HR.out HX.out p _).mono ?_; rintro e w1 ⟨rfl, hb1⟩; rw [HPt.out]
      replace HT := Lib.hid (HT.out.below hb1)
      replace HA0 := Lib.hid (HA0.out.below hb1)
      replace HO0 := Lib.hid (HO0.out.trans (Only.of_below hb1))
      clear hb1 y0 y1 y2 y3 y4 y5 hlt
      obtain ⟨y0, y1, y2, y3, y4, y5⟩ := HT.out.cells
      have hlt := HT.out.lt
      go_wp2_with fail
      refine (tstoref (k := 2) HA0.out kI2 HX.out H0.out (by omega) (fun _ => HPt.out) (fun _ => HV.out) H7.out (by omega)).mono ?_; rintro e w2 ⟨rfl, A2, O2⟩
      have HA2 := Lib.hid (A2.more (m' := m + 2) (by omega))
      have HO2 := Lib.hid (HO0.out.trans O2)
      go_wp2_with fail
      go_end0
      exact ⟨rfl, HA2.out, HO2.out⟩

structure TCf (W : World) (b c : Nat) (V S T : Int) (p : Nat) : Prop where
  t : TBf W b V S T p
  r : PB W c

theorem TCf.below {b c : Nat} (h : TCf w b c V S T p) (hb : Below w.heap.size w w') : TCf w' b c V S T p := by
  obtain ⟨t, a, d, r⟩ := h
  exact ⟨t.below hb, a, d, r.below hb r.lt⟩

theorem TCf.only {b c : Nat} (h : TCf w b c V S T p) (A : TMf w V S T p gb cap m g) (ho : Only p gb w w') : TCf w' b c V S T p := by
  obtain ⟨t, a, d, r⟩ := h
  exact ⟨t.only A ho, a, d, r.treapf A ho (by decide) (by decide)⟩

theorem TCf.drew {b c : Nat} (h : TCf w b c V S T p) : TCf w.drew b c V S T p := h.below (Below.refl _ _).drew

theorem TCf.set {b c : Nat} (h : TCf w b c V S T p) (u v : Value) : TCf ((w.setCell ⟨c, 0, none⟩ u).setCell ⟨c, 1, none⟩ v) b c V S T p := by
  obtain ⟨t, a, d, r⟩ := h
  have hne : b ≠ c := Blk.ne_ t r (by decide)
  exact ⟨Blk.far (Blk.far t hne u) hne v, u, v, (r.set_ 0 u).set_ 1 v⟩

theorem TCf.set1 {b c : Nat} (h : TCf w b c V S T p) (u : Value) : TCf (w.setCell ⟨c, 0, none⟩ u) b c V S T p := by
  obtain ⟨t, a, d, r⟩ := h
  have hne : b ≠ c := Blk.ne_ t r (by decide)
  exact ⟨Blk.far t hne u, u, d, r.set_ 0 u⟩

theorem tc_rulef (b c : Nat) (V S T : Int) (p : Nat) : ∀ W : World, TCf W b c V S T p → W.cell? ⟨b, 0, none⟩ = some (.int .i64 V) ∧ W.cell? ⟨b, 1, none⟩ = some (.int .i64 S) ∧ W.cell? ⟨b, 2, none⟩ = some (.int .i64 T) ∧ W.cell? ⟨b, 3, none⟩ = some (.iface 84 (pmV p)) ∧ W.cell? ⟨b, 4, none⟩ = some (.int .i64 1) ∧ W.cell? ⟨b, 5, none⟩ = some (.int .i64 0) ∧ W.cell? ⟨c, 0, none⟩ = some (zAt W c 0) ∧ W.cell? ⟨c, 1, none⟩ = some (zAt W c 1) ∧ W.frozen? ⟨c, 0, none⟩ = false ∧ W.frozen? ⟨c, 1, none⟩ = false := fun W h => by
  obtain ⟨y0, y1, y2, y3, y4, y5⟩ := h.t.cells
  obtain ⟨_, a, d, r⟩ := h
  have e0 := r.cell 0
  have e1 := r.cell 1
  exact ⟨y0, y1, y2, y3, y4, y5, by unfold zAt; rw [e0]; rfl, by unfold zAt; rw [e1]; rfl, r.frozen 0, r.frozen 1⟩

theorem tsumf (A : TMf w V S T p gb cap m g) {x : Nat} (hx : x ≤ nN V S) (hm : m ≤ 100000000) :
    Calls Try.prog 94 #[vTr V S T p, .int .i64 (x : Int)] w (Didf V S T p gb cap (m + 1) g (vSm (g x 6)) w) := by
  have fit := A.fit (k := 6) hx (by omega) (by omega)
  obtain ⟨q1, q2, q3, q4⟩ := sum_bits fit
  have HX := Lib.hid hx
  have HA := Lib.hid A
  have fI : (g x 6 : Int) ≤ 18446744073709551615 := by omega
  obtain ⟨s, hs⟩ : ∃ s, g x 6 = s := ⟨_, rfl⟩
  have HV := Lib.hid hs
  rw [hs] at q1 q2 q3 q4 fI
  rw [hs]
  clear hx A fit hs
  go_enter Try.func94, Try.ntmps94
  go_wp2_with fail
  have HT : Hid (TBf (w.alloc (.cells #[.int .i64 V, .int .i64 S, .int .i64 T, .iface 84 (pmV p), .int .i64 1, .int .i64 0] 32)) w.heap.size V S T p) := Lib.hid (TBf.new _ _ _ _ _)
  have HA0 := Lib.hid (HA.out.alloc (.cells #[.int .i64 V, .int .i64 S, .int .i64 T, .iface 84 (pmV p), .int .i64 1, .int .i64 0] 32))
  have HO0 := Lib.hid ((Only.refl p gb w).alloc (.cells #[.int .i64 V, .int .i64 S, .int .i64 T, .iface 84 (pmV p), .int .i64 1, .int .i64 0] 32))
  have HS0 : Hid (Blk ((w.alloc (.cells #[.int .i64 V, .int .i64 S, .int .i64 T, .iface 84 (pmV p), .int .i64 1, .int .i64 0] 32)).alloc (.cells #[.int .u64 0, .int .u64 0, .int .u64 0, .int .u64 0] 149)) (w.heap.size + 1) 149 #[.int .u64 0, .int .u64 0, .int .u64 0, .int .u64 0]) := Lib.hid (new_next w _ _ _ _)
  replace HT := Lib.hid (HT.out.alloc (.cells #[.int .u64 0, .int .u64 0, .int .u64 0, .int .u64 0] 149))
  replace HA0 := Lib.hid (HA0.out.alloc (.cells #[.int .u64 0, .int .u64 0, .int .u64 0, .int .u64 0] 149))
  replace HO0 := Lib.hid (HO0.out.alloc (.cells #[.int .u64 0, .int .u64 0, .int .u64 0, .int .u64 0] 149))
  generalize hwb : w.heap.size = b at HT HS0 ⊢
  generalize hW : (w.alloc (.cells #[.int .i64 V, .int .i64 S, .int .i64 T, .iface 84 (pmV p), .int .i64 1, .int .i64 0] 32)).alloc (.cells #[.int .u64 0, .int .u64 0, .int .u64 0, .int .u64 0] 149) = W at HT HA0 HO0 HS0 ⊢
  clear hW
  have htb := tb_rulef b V S T p
  obtain ⟨y0, y1, y2, y3, y4, y5⟩ := HT.out.cells
  have hlt := HT.out.lt
  refine (tload6f HA0.out HX.out hm).mono ?_; rintro e w1 ⟨rfl, A1, O1⟩; rw [HV.out]
  have HS1 := Lib.hid (HS0.out.treapf HA0.out O1 (by decide) (by decide))
  have HA1 := Lib.hid A1
  have HO1 := Lib.hid (HO0.out.trans O1)
  have hs0 := HS1.out.cell 0
  have hs1 := HS1.out.cell 1
  have hs2 := HS1.out.cell 2
  have hs3 := HS1.out.cell 3
  have hsf := HS1.out.frozen
  clear A1 O1
  go_wp2_with fail
  have hA2 := ((((HA1.out.far HS1.out (by decide) (by decide) (j := 0) (.int .u64 (nS s : Int))).far (HS1.out.set_ 0 _) (by decide) (by decide) (j := 1) (.int .u64 (vS s : Int))).far ((HS1.out.set_ 0 _).set_ 1 _) (by decide) (by decide) (j := 2) (.int .u64 (oS s : Int))).far (((HS1.out.set_ 0 _).set_ 1 _).set_ 2 _) (by decide) (by decide) (j := 3) (.int .u64 (aS s : Int)))
  have HS2 := ((((HS1.out.set_ 0 (.int .u64 (nS s : Int))).set_ 1 (.int .u64 (vS s : Int))).set_ 2 (.int .u64 (oS s : Int))).set_ 3 (.int .u64 (aS s : Int)))
  have e0 := HS2.cell 0
  have e1 := HS2.cell 1
  have e2 := HS2.cell 2
  have e3 := HS2.cell 3
  exact bodyPost_ret (v := vSm s) (by simp [results, Try.results94, go_sem, e0, e1, e2, e3]) rfl ⟨rfl, hA2, (((HO1.out.set_new (by omega) _).set_new (by omega) _).set_new (by omega) _).set_new (by omega) _⟩

set_option maxHeartbeats 1000000 in
theorem tchildrenf (A : TMf w V S T p gb cap m g) {x : Nat} (hx : x ≤ nN V S) (hm : m ≤ 99999999) :
    Calls Try.prog 127 #[vTr V S T p, .int .i64 (x : Int)] w (Didf V S T p gb cap (m + 2) g (.agg #[.int .i64 (g x 3 : Int), .int .i64 (g x 4 : Int)]) w) := by
  have hm' : m + 1 ≤ 100000000 := by omega
  replace hm : m ≤ 100000000 := by omega
  have HX := Lib.hid hx
  have HA := Lib.hid A
  obtain ⟨l, hl⟩ : ∃ l, g x 3 = l := ⟨_, rfl⟩
  obtain ⟨r, hr⟩ : ∃ r, g x 4 = r := ⟨_, rfl⟩
  have HL := Lib.hid hl
  have HRr := Lib.hid hr
  rw [hl, hr]
  clear hx A hl hr
  go_enter Try.func127, Try.ntmps127
  go_wp2_with fail
  have HT : Hid (TBf (w.alloc (.cells #[.int .i64 V, .int .i64 S, .int .i64 T, .iface 84 (pmV p), .int .i64 1, .int .i64 0] 32)) w.heap.size V S T p) := Lib.hid (TBf.new _ _ _ _ _)
  have HA0 := Lib.hid (HA.out.alloc (.cells #[.int .i64 V, .int .i64 S, .int .i64 T, .iface 84 (pmV p), .int .i64 1, .int .i64 0] 32))
  have HO0 := Lib.hid ((Only.refl p gb w).alloc (.cells #[.int .i64 V, .int .i64 S, .int .i64 T, .iface 84 (pmV p), .int .i64 1, .int .i64 0] 32))
  have HS0 : Hid (Blk ((w.alloc (.cells #[.int .i64 V, .int .i64 S, .int .i64 T, .iface 84 (pmV p), .int .i64 1, .int .i64 0] 32)).alloc (.cells #[.int .i64 0, .int .i64 0] 97)) (w.heap.size + 1) 97 #[.int .i64 0, .int .i64 0]) := Lib.hid (new_next w _ _ _ _)
  replace HT := Lib.hid (HT.out.alloc (.cells #[.int .i64 0, .int .i64 0] 97))
  replace HA0 := Lib.hid (HA0.out.alloc (.cells #[.int .i64 0, .int .i64 0] 97))
  replace HO0 := Lib.hid (HO0.out.alloc (.cells #[.int .i64 0, .int .i64 0] 97))
  generalize hwb : w.heap.size = b at HT HS0 ⊢
  generalize hW : (w.alloc (.cells #[.int .i64 V, .int .i64 S, .int .i64 T, .iface 84 (pmV p), .int .i64 1, .int .i64 0] 32)).alloc (.cells #[.int .i64 0, .int .i64 0] 97) = W at HT HA0 HO0 HS0 ⊢
  clear hW
  have htb := tb_rulef b V S T p
  obtain ⟨y0, y1, y2, y3, y4, y5⟩ := HT.out.cells
  have hlt := HT.out.lt
  have HTC : Hid (TCf W b (b + 1) V S T p) := Lib.hid ⟨HT.out, _, _, HS0.out⟩
  have HTd := Lib.hid HTC.out.drew
  have HAd := Lib.hid HA0.out.drew
  have HOd := Lib.hid HO0.out.drew
  have htc := tc_rulef b (b + 1) V S T p
  have e0 := HS0.out.cell 0
  have e1 := HS0.out.cell 1
  have e2 := HS0.out.frozen
  clear htb
  go_region_held3 (fun W => TCf W b (b + 1) V S T p) (first | (with_reducible assumption) | (with_reducible exact TCf.set (by assumption) _ _) | (with_reducible exact TCf.only (by assumption) (Hid.out (by assumption : Hid (TMf _ V S T p gb cap m g))) O2) | (with_reducible exact TCf.only (by assumption) (Hid.out (by assumption : Hid (TMf _ V S T p gb cap (m + 1) g))) O2) | (with_reducible exact HTd.out))
    (first
      | (go_at_call 139; ((with_reducible refine (tchild3f (Hid.out (by assumption : Hid (TMf _ V S T p gb cap (m) g))) HX.out hm).mono ?_); rintro e w2 ⟨rfl, A2, O2⟩; have HA2 := Lib.hid A2; have HO2 := Lib.hid (Only.trans (Hid.out (by assumption : Hid (Only p gb w _))) O2); rw [HL.out]; have HT2 := Lib.hid (TCf.only (by assumption) (Hid.out (by assumption : Hid (TMf _ V S T p gb cap (m) g))) O2)))
      | (go_at_call 139; ((with_reducible refine (tchild3f (Hid.out (by assumption : Hid (TMf _ V S T p gb cap (m + 1) g))) HX.out hm').mono ?_); rintro e w2 ⟨rfl, A2, O2⟩; have HA3 := Lib.hid A2; have HO3 := Lib.hid (Only.trans (Hid.out (by assumption : Hid (Only p gb w _))) O2); rw [HL.out]; have HT2 := Lib.hid (TCf.only (by assumption) (Hid.out (by assumption : Hid (TMf _ V S T p gb cap (m + 1) g))) O2)))
      | (go_at_call 139; ((with_reducible refine (tchild4f (Hid.out (by assumption : Hid (TMf _ V S T p gb cap (m) g))) HX.out hm).mono ?_); rintro e w2 ⟨rfl, A2, O2⟩; have HA2 := Lib.hid A2; have HO2 := Lib.hid (Only.trans (Hid.out (by assumption : Hid (Only p gb w _))) O2); rw [HRr.out]; have HT2 := Lib.hid (TCf.only (by assumption) (Hid.out (by assumption : Hid (TMf _ V S T p gb cap (m) g))) O2)))
      | (go_at_call 139; ((with_reducible refine (tchild4f (Hid.out (by assumption : Hid (TMf _ V S T p gb cap (m + 1) g))) HX.out hm').mono ?_); rintro e w2 ⟨rfl, A2, O2⟩; have HA3 := Lib.hid A2; have HO3 := Lib.hid (Only.trans (Hid.out (by assumption : Hid (Only p gb w _))) O2); rw [HRr.out]; have HT2 := Lib.hid (TCf.only (by assumption) (Hid.out (by assumption : Hid (TMf _ V S T p gb cap (m + 1) g))) O2))))
  all_goals
    obtain ⟨_, a0, b0, hblk⟩ := HT2.out
    have HS2 := (hblk.set_ 0 (.int .i64 (l : Int))).set_ 1 (.int .i64 (r : Int))
    have f0 := HS2.cell 0
    have f1 := HS2.cell 1
    have hA2 := (HA3.out.far hblk (by decide) (by decide) (j := 0) (.int .i64 (l : Int))).far (hblk.set_ 0 _) (by decide) (by decide) (j := 1) (.int .i64 (r : Int))
    clear htc
    go_wp2_with fail
    exact bodyPost_ret (v := .agg #[.int .i64 (l : Int), .int .i64 (r : Int)]) (by simp [results, Try.results127, go_sem, f0, f1]) rfl ⟨rfl, hA2, (HO3.out.set_new (by omega) _).set_new (by omega) _⟩

/-- In the loop: k of two children are reckoned. -/
def RkRelf (w0 : World) (b : Nat) (V S T : Int) (p gb cap m : Nat) (g : Mg9) (nf vf : Nat → Nat) (own : Nat) (af : Nat → Nat) (i : Value) (W : World) : Prop :=
  ∃ k, k ≤ 2 ∧ i = .int .i64 ((k : Nat) : Int) ∧ TBf W b V S T p ∧ Blk W (b + 1) 149 #[.int .u64 (nf k : Int), .int .u64 (vf k : Int), .int .u64 (own : Int), .int .u64 (af k : Int)] ∧ TMf W V S T p gb cap (m + k) g ∧ Only p gb w0 W

theorem rk_nextf {w0 w4 : World} {b own k : Nat} {nf vf af : Nat → Nat} {x0 x1 x2 x3 : Value} (hk : k + 1 ≤ 2) (HT : TBf w4 b V S T p) (HS : Blk w4 (b + 1) 149 #[x0, x1, x2, x3]) (h2 : x2 = .int .u64 (own : Int)) (HA : TMf w4 V S T p gb cap (m + k + 1) g) (HO : Only p gb w0 w4) (hb : w0.heap.size = b) (o : Obj) :
    RkRelf w0 b V S T p gb cap m g nf vf own af (.int .i64 ((k + 1 : Nat) : Int)) ((((w4.setCell ⟨b + 1, 0, none⟩ (.int .u64 (nf (k + 1) : Int))).setCell ⟨b + 1, 1, none⟩ (.int .u64 (vf (k + 1) : Int))).setCell ⟨b + 1, 3, none⟩ (.int .u64 (af (k + 1) : Int))).alloc o) := by
  subst h2
  have hne : b ≠ b + 1 := by omega
  have B1 := HS.set_ 0 (.int .u64 (nf (k + 1) : Int))
  have B2 := B1.set_ 1 (.int .u64 (vf (k + 1) : Int))
  have B3 := B2.set_ 3 (.int .u64 (af (k + 1) : Int))
  exact ⟨k + 1, hk, rfl, Blk.alloc (Blk.far (Blk.far (Blk.far HT hne _) hne _) hne _) o, B3.alloc o, (((HA.far HS (by decide) (by decide) _).far B1 (by decide) (by decide) _).far B2 (by decide) (by decide) _).alloc o, (((HO.set_new (by omega) _).set_new (by omega) _).set_new (by omega) _).alloc o⟩

set_option maxHeartbeats 2000000 in
theorem treckonf (A : TMf w V S T p gb cap m g) {x own : Nat} (hx : x ≤ nN V S) (hx1 : 1 ≤ x) (ho : own < 4) (hm : m ≤ 99999990) :
    Calls Try.prog 99 #[vTr V S T p, .int .i64 (x : Int), .int .u64 (own : Int)] w (Didf V S T p gb cap (m + 5) (reckG (vxN V) g x own) (.tuple #[]) w) := by
  have HX := Lib.hid hx
  have HX1 := Lib.hid hx1
  have HA := Lib.hid A
  have HR := Lib.hid A.hR
  have HLN := Lib.hid (A.b hx).2.1
  have HRN := Lib.hid (A.b hx).2.2
  obtain ⟨l, hl⟩ : ∃ l, g x 3 = l := ⟨_, rfl⟩
  obtain ⟨r, hr⟩ : ∃ r, g x 4 = r := ⟨_, rfl⟩
  rw [hl] at HLN
  rw [hr] at HRN
  obtain ⟨sl, hsl⟩ : ∃ sl, g l 6 = sl := ⟨_, rfl⟩
  obtain ⟨sr, hsr⟩ : ∃ sr, g r 6 = sr := ⟨_, rfl⟩
  have HL := Lib.hid hl
  have HRr := Lib.hid hr
  have HSL := Lib.hid hsl
  have HSR := Lib.hid hsr
  have HG : Hid (reckG (vxN V) g x own = up2 g x 6 (packW (1 + nS sl + nS sr) ((if vxN V x then 1 else 0) + vS sl + vS sr) own (own ||| aS sl ||| aS sr))) := Lib.hid (by unfold reckG; rw [hl, hr, hsl, hsr])
  rw [HG.out]
  obtain ⟨vx0, hvx⟩ : ∃ v : Nat, (if vxN V x then 1 else 0) = v := ⟨_, rfl⟩
  have HVX := Lib.hid hvx
  rw [hvx]
  clear hl hr hsl hsr hx hx1 hvx HG
  have hb5 : vx0 ≤ 1 := by have := HVX.out; split at this <;> omega
  obtain ⟨n1, n2, en1, en2⟩ : ∃ n1 n2, n1 = 1 + nS sl ∧ n2 = 1 + nS sl + nS sr := ⟨_, _, rfl, rfl⟩
  obtain ⟨v1, v2, ev1, ev2⟩ : ∃ v1 v2, v1 = vx0 + vS sl ∧ v2 = vx0 + vS sl + vS sr := ⟨_, _, rfl, rfl⟩
  obtain ⟨a1, a2, ea1, ea2⟩ : ∃ a1 a2, a1 = own ||| aS sl ∧ a2 = own ||| aS sl ||| aS sr := ⟨_, _, rfl, rfl⟩
  have hn2 : n2 ≤ 200000 := by have := nS_lt sl; have := nS_lt sr; omega
  have hv2 : v2 ≤ 200000 := by have := vS_lt sl; have := vS_lt sr; omega
  have ha1 : a1 < 4 := by rw [ea1]; exact or_lt4 ho (aS_lt sl)
  have ha2 : a2 < 4 := by rw [ea2]; exact or_lt4 (or_lt4 ho (aS_lt sl)) (aS_lt sr)
  have q1 : 1 + (nS sl : Int) = (n1 : Int) := by omega
  have q2 : (n1 : Int) + (nS sr : Int) = (n2 : Int) := by omega
  have q3 : (vx0 : Int) + (vS sl : Int) = (v1 : Int) := by omega
  have q4 : (v1 : Int) + (vS sr : Int) = (v2 : Int) := by omega
  have q5 : bits .or .u64 (own : Int) (aS sl : Int) = (a1 : Int) := by rw [ea1]; exact u64_or_nat _ _ (by omega) (by have := aS_lt sl; omega)
  have q6 : bits .or .u64 (a1 : Int) (aS sr : Int) = (a2 : Int) := by rw [ea2, ← ea1]; exact u64_or_nat _ _ (by omega) (by have := aS_lt sr; omega)
  have hn1 : (n1 : Int) ≤ 200000 := by omega
  have hn2' : (n2 : Int) ≤ 200000 := by omega
  have hv1 : (v1 : Int) ≤ 200000 := by omega
  have hv2' : (v2 : Int) ≤ 200000 := by omega
  have ha2' : (a2 : Int) ≤ 3 := by omega
  have hoI : (own : Int) ≤ 3 := by omega
  obtain ⟨SW, hSW⟩ : ∃ SW, packW n2 v2 own a2 = SW := ⟨_, rfl⟩
  have q7 : bits .or .u64 (bits .or .u64 (bits .or .u64 (n2 : Int) ((v2 : Int) * 65536)) ((own : Int) * 4294967296)) ((a2 : Int) * 17179869184) = (SW : Int) := by rw [← hSW]; exact sum_pack (by omega) (by omega) ho ha2
  have HSW : Hid (SW ≤ 18446744073709551615) := Lib.hid (by have := packW_lt (n := n2) (v := v2) (o := own) (a := a2) (by omega) (by omega) ho ha2; omega)
  rw [← en2, ← ev2, ← ea2, hSW]
  clear en1 en2 ev1 ev2 ea1 ea2 hSW hn2 hv2 ha1 ha2 A
  have main : ∀ q : Bool, arcN V x = q → Calls Try.prog 99 #[vTr V S T p, .int .i64 (x : Int), .int .u64 (own : Int)] w (Didf V S T p gb cap (m + 5) (up2 g x 6 SW) (.tuple #[]) w) := by
    intro q hq
    have HQ := Lib.hid hq
    clear hq
    cases q with
    | true =>
      have HV0 : Hid (vx0 = 0) := Lib.hid (by have := HVX.out; unfold vxN at this; rw [HQ.out] at this; simpa using this.symm)
      go_enter Try.func99, Try.ntmps99
      go_wp2_with fail
      have HT : Hid (TBf (w.alloc (.cells #[.int .i64 V, .int .i64 S, .int .i64 T, .iface 84 (pmV p), .int .i64 1, .int .i64 0] 32)) w.heap.size V S T p) := Lib.hid (TBf.new _ _ _ _ _)
      have HA0 := Lib.hid (HA.out.alloc (.cells #[.int .i64 V, .int .i64 S, .int .i64 T, .iface 84 (pmV p), .int .i64 1, .int .i64 0] 32))
      have HO0 := Lib.hid ((Only.refl p gb w).alloc (.cells #[.int .i64 V, .int .i64 S, .int .i64 T, .iface 84 (pmV p), .int .i64 1, .int .i64 0] 32))
      have HS0 : Hid (Blk ((w.alloc (.cells #[.int .i64 V, .int .i64 S, .int .i64 T, .iface 84 (pmV p), .int .i64 1, .int .i64 0] 32)).alloc (.cells #[.int .u64 1, .int .u64 0, .int .u64 (own : Int), .int .u64 (own : Int)] 149)) (w.heap.size + 1) 149 #[.int .u64 1, .int .u64 0, .int .u64 (own : Int), .int .u64 (own : Int)]) := Lib.hid (new_next w _ _ _ _)
      replace HT := Lib.hid (HT.out.alloc (.cells #[.int .u64 1, .int .u64 0, .int .u64 (own : Int), .int .u64 (own : Int)] 149))
      replace HA0 := Lib.hid (HA0.out.alloc (.cells #[.int .u64 1, .int .u64 0, .int .u64 (own : Int), .int .u64 (own : Int)] 149))
      replace HO0 := Lib.hid (HO0.out.alloc (.cells #[.int .u64 1, .int .u64 0, .int .u64 (own : Int), .int .u64 (own : Int)] 149))
      generalize hwb : w.heap.size = b at HT HS0 ⊢
      generalize hW : (w.alloc (.cells #[.int .i64 V, .int .i64 S, .int .i64 T, .iface 84 (pmV p), .int .i64 1, .int .i64 0] 32)).alloc (.cells #[.int .u64 1, .int .u64 0, .int .u64 (own : Int), .int .u64 (own : Int)] 149) = W at HT HA0 HO0 HS0 ⊢
      clear hW
      have htb := tb_rulef b V S T p
      obtain ⟨y0, y1, y2, y3, y4, y5⟩ := HT.out.cells
      have hlt := HT.out.lt
      refine (node_is HR.out HX1.out HX.out _).mono ?_; rintro e w1 ⟨⟨d1, d2, d3, rfl⟩, hb1⟩; rw [HQ.out]
      generalize lvN V x = lvl
      have HT1 := Lib.hid (HT.out.below hb1)
      have HS1 := Lib.hid (HS0.out.below hb1 HS0.out.lt)
      have HA1 := Lib.hid (HA0.out.below hb1)
      have HO1 := Lib.hid (HO0.out.trans (Only.of_below hb1))
      clear hb1 y0 y1 y2 y3 y4 y5 hlt HT HS0 HA0 HO0 htb
      obtain ⟨y0, y1, y2, y3, y4, y5⟩ := HT1.out.cells
      have hlt := HT1.out.lt
      have s0 := HS1.out.cell 0
      have s1 := HS1.out.cell 1
      have s2 := HS1.out.cell 2
      have s3 := HS1.out.cell 3
      have sf := HS1.out.frozen
      have slt := HS1.out.lt
      go_wp2_with fail
      have HT2 : Hid (TBf (w1.alloc (.cells #[.bool true, .int .i64 lvl, .int .i64 d1, .int .i64 d2, .int .i64 d3] 161)) b V S T p) := Lib.hid (HT1.out.alloc _)
      have HS2 : Hid (Blk (w1.alloc (.cells #[.bool true, .int .i64 lvl, .int .i64 d1, .int .i64 d2, .int .i64 d3] 161)) (b + 1) 149 #[.int .u64 1, .int .u64 (vx0 : Int), .int .u64 (own : Int), .int .u64 (own : Int)]) := Lib.hid (by rw [HV0.out]; exact HS1.out.alloc _)
      have HA2 : Hid (TMf (w1.alloc (.cells #[.bool true, .int .i64 lvl, .int .i64 d1, .int .i64 d2, .int .i64 d3] 161)) V S T p gb cap m g) := Lib.hid (HA1.out.alloc _)
      have HO2 : Hid (Only p gb w (w1.alloc (.cells #[.bool true, .int .i64 lvl, .int .i64 d1, .int .i64 d2, .int .i64 d3] 161))) := Lib.hid (HO1.out.alloc _)
      clear HT1 HS1 HA1 HO1 y0 y1 y2 y3 y4 y5 hlt s0 s1 s2 s3 sf slt
      generalize w1.alloc (.cells #[.bool true, .int .i64 lvl, .int .i64 d1, .int .i64 d2, .int .i64 d3] 161) = W2 at HT2 HS2 HA2 HO2 ⊢
      refine (tchildrenf HA2.out HX.out (by omega)).mono ?_; rintro e w3 ⟨rfl, A3, O3⟩; rw [HL.out, HRr.out]
      have HT3 := Lib.hid (HT2.out.only HA2.out O3)
      have HS3 := Lib.hid (HS2.out.treapf HA2.out O3 (by decide) (by decide))
      have HRel : Hid (RkRelf w b V S T p gb cap (m + 2) g (tri 1 n1 n2) (tri vx0 v1 v2) own (tri own a1 a2) (.int .i64 0) w3) := Lib.hid ⟨0, by omega, rfl, HT3.out, HS3.out, A3, HO2.out.trans O3⟩
      clear HT2 HS2 HA2 HO2 HT3 HS3 A3 O3
      go_wp2_with fail
      go_loopw [29] (fun i wr => RkRelf w b V S T p gb cap (m + 2) g (tri 1 n1 n2) (tri vx0 v1 v2) own (tri own a1 a2) i wr) (fun i _ => 2 - (intOf i).toNat)
      case atStart => exact HRel.out
      case round =>
        clear HRel
        obtain ⟨k, hk, rfl, hT, hS, hA, hO⟩ := hrel
        have HT := Lib.hid hT
        have HS := Lib.hid hS
        have HA3 := Lib.hid hA
        have HO3 := Lib.hid hO
        obtain ⟨y0, y1, y2, y3, y4, y5⟩ := hT.cells
        have hlt := hT.lt
        have sf := hS.frozen
        have slt := hS.lt
        clear hT hS hA hO
        have hk3 : k = 0 ∨ k = 1 ∨ k = 2 := by omega
        rcases hk3 with rfl | rfl | rfl
        · have s0 : wr.cell? ⟨b + 1, 0, none⟩ = some (.int .u64 1) := HS.out.cell 0
          have s1 : wr.cell? ⟨b + 1, 1, none⟩ = some (.int .u64 (vx0 : Int)) := HS.out.cell 1
          have s3 : wr.cell? ⟨b + 1, 3, none⟩ = some (.int .u64 (own : Int)) := HS.out.cell 3
          have ix : ∀ W, (Instr.index 97 (.agg #[.int .i64 (l : Int), .int .i64 (r : Int)]) (.int .i64 0)).run Try.prog W = .ok (.int .i64 (l : Int)) W := fun W => rfl
          go_wp2_with fail
          refine (tsumf HA3.out HLN.out (by omega)).mono ?_; rintro e w4 ⟨rfl, A4, O4⟩; rw [HSL.out]
          have HT4 := Lib.hid (HT.out.only HA3.out O4)
          have HS4 := Lib.hid (HS.out.treapf HA3.out O4 (by decide) (by decide))
          have HA4 := Lib.hid A4
          have HO4 := Lib.hid (HO3.out.trans O4)
          clear s0 s1 s3 y0 y1 y2 y3 y4 y5 hlt HT HS HA3 HO3 ix sf slt
          obtain ⟨y0, y1, y2, y3, y4, y5⟩ := HT4.out.cells
          have hlt := HT4.out.lt
          have s0 : w4.cell? ⟨b + 1, 0, none⟩ = some (.int .u64 1) := HS4.out.cell 0
          have s1 : w4.cell? ⟨b + 1, 1, none⟩ = some (.int .u64 (vx0 : Int)) := HS4.out.cell 1
          have s3 : w4.cell? ⟨b + 1, 3, none⟩ = some (.int .u64 (own : Int)) := HS4.out.cell 3
          have sf := HS4.out.frozen
          have slt := HS4.out.lt
          go_wp2_with fail
          go_roundw
          case rel => exact rk_nextf (nf := tri 1 n1 n2) (vf := tri vx0 v1 v2) (af := tri own a1 a2) (k := 0) (by omega) HT4.out HS4.out rfl HA4.out HO4.out hwb _
          case measure => simp [intOf]
        · have s0 : wr.cell? ⟨b + 1, 0, none⟩ = some (.int .u64 (n1 : Int)) := HS.out.cell 0
          have s1 : wr.cell? ⟨b + 1, 1, none⟩ = some (.int .u64 (v1 : Int)) := HS.out.cell 1
          have s3 : wr.cell? ⟨b + 1, 3, none⟩ = some (.int .u64 (a1 : Int)) := HS.out.cell 3
          have ix : ∀ W, (Instr.index 97 (.agg #[.int .i64 (l : Int), .int .i64 (r : Int)]) (.int .i64 1)).run Try.prog W = .ok (.int .i64 (r : Int)) W := fun W => rfl
          go_wp2_with fail
          refine (tsumf HA3.out HRN.out (by omega)).mono ?_; rintro e w4 ⟨rfl, A4, O4⟩; rw [HSR.out]
          have HT4 := Lib.hid (HT.out.only HA3.out O4)
          have HS4 := Lib.hid (HS.out.treapf HA3.out O4 (by decide) (by decide))
          have HA4 := Lib.hid A4
          have HO4 := Lib.hid (HO3.out.trans O4)
          clear s0 s1 s3 y0 y1 y2 y3 y4 y5 hlt HT HS HA3 HO3 ix sf slt
          obtain ⟨y0, y1, y2, y3, y4, y5⟩ := HT4.out.cells
          have hlt := HT4.out.lt
          have s0 : w4.cell? ⟨b + 1, 0, none⟩ = some (.int .u64 (n1 : Int)) := HS4.out.cell 0
          have s1 : w4.cell? ⟨b + 1, 1, none⟩ = some (.int .u64 (v1 : Int)) := HS4.out.cell 1
          have s3 : w4.cell? ⟨b + 1, 3, none⟩ = some (.int .u64 (a1 : Int)) := HS4.out.cell 3
          have sf := HS4.out.frozen
          have slt := HS4.out.lt
          go_wp2_with fail
          go_roundw
          case rel => exact rk_nextf (nf := tri 1 n1 n2) (vf := tri vx0 v1 v2) (af := tri own a1 a2) (k := 1) (by omega) HT4.out HS4.out rfl HA4.out HO4.out hwb _
          case measure => simp [intOf]
        · have s0 : wr.cell? ⟨b + 1, 0, none⟩ = some (.int .u64 (n2 : Int)) := HS.out.cell 0
          have s1 : wr.cell? ⟨b + 1, 1, none⟩ = some (.int .u64 (v2 : Int)) := HS.out.cell 1
          have s2 : wr.cell? ⟨b + 1, 2, none⟩ = some (.int .u64 (own : Int)) := HS.out.cell 2
          have s3 : wr.cell? ⟨b + 1, 3, none⟩ = some (.int .u64 (a2 : Int)) := HS.out.cell 3
          go_wp2_with fail
          refine (tstoref (k := 6) HA3.out kI6 HX.out HX1.out (by omega) (fun e => absurd e (by omega)) (fun e => absurd e (by omega)) HSW.out (by omega)).mono ?_; rintro e w4 ⟨rfl, A4, O4⟩
          have HA4 := Lib.hid A4
          have HO4 := Lib.hid (HO3.out.trans O4)
          clear A4 O4
          go_wp2_with fail
          go_end0
          exact ⟨rfl, HA4.out.more (by omega), HO4.out⟩
    | false =>
      have HV0 : Hid (vx0 = 1) := Lib.hid (by have := HVX.out; unfold vxN at this; rw [HQ.out] at this; simpa using this.symm)
      go_enter Try.func99, Try.ntmps99
      go_wp2_with fail
      have HT : Hid (TBf (w.alloc (.cells #[.int .i64 V, .int .i64 S, .int .i64 T, .iface 84 (pmV p), .int .i64 1, .int .i64 0] 32)) w.heap.size V S T p) := Lib.hid (TBf.new _ _ _ _ _)
      have HA0 := Lib.hid (HA.out.alloc (.cells #[.int .i64 V, .int .i64 S, .int .i64 T, .iface 84 (pmV p), .int .i64 1, .int .i64 0] 32))
      have HO0 := Lib.hid ((Only.refl p gb w).alloc (.cells #[.int .i64 V, .int .i64 S, .int .i64 T, .iface 84 (pmV p), .int .i64 1, .int .i64 0] 32))
      have HS0 : Hid (Blk ((w.alloc (.cells #[.int .i64 V, .int .i64 S, .int .i64 T, .iface 84 (pmV p), .int .i64 1, .int .i64 0] 32)).alloc (.cells #[.int .u64 1, .int .u64 0, .int .u64 (own : Int), .int .u64 (own : Int)] 149)) (w.heap.size + 1) 149 #[.int .u64 1, .int .u64 0, .int .u64 (own : Int), .int .u64 (own : Int)]) := Lib.hid (new_next w _ _ _ _)
      replace HT := Lib.hid (HT.out.alloc (.cells #[.int .u64 1, .int .u64 0, .int .u64 (own : Int), .int .u64 (own : Int)] 149))
      replace HA0 := Lib.hid (HA0.out.alloc (.cells #[.int .u64 1, .int .u64 0, .int .u64 (own : Int), .int .u64 (own : Int)] 149))
      replace HO0 := Lib.hid (HO0.out.alloc (.cells #[.int .u64 1, .int .u64 0, .int .u64 (own : Int), .int .u64 (own : Int)] 149))
      generalize hwb : w.heap.size = b at HT HS0 ⊢
      generalize hW : (w.alloc (.cells #[.int .i64 V, .int .i64 S, .int .i64 T, .iface 84 (pmV p), .int .i64 1, .int .i64 0] 32)).alloc (.cells #[.int .u64 1, .int .u64 0, .int .u64 (own : Int), .int .u64 (own : Int)] 149) = W at HT HA0 HO0 HS0 ⊢
      clear hW
      have htb := tb_rulef b V S T p
      obtain ⟨y0, y1, y2, y3, y4, y5⟩ := HT.out.cells
      have hlt := HT.out.lt
      refine (node_is HR.out HX1.out HX.out _).mono ?_; rintro e w1 ⟨⟨d1, d2, d3, rfl⟩, hb1⟩; rw [HQ.out]
      generalize lvN V x = lvl
      have HT1 := Lib.hid (HT.out.below hb1)
      have HS1 := Lib.hid (HS0.out.below hb1 HS0.out.lt)
      have HA1 := Lib.hid (HA0.out.below hb1)
      have HO1 := Lib.hid (HO0.out.trans (Only.of_below hb1))
      clear hb1 y0 y1 y2 y3 y4 y5 hlt HT HS0 HA0 HO0 htb
      obtain ⟨y0, y1, y2, y3, y4, y5⟩ := HT1.out.cells
      have hlt := HT1.out.lt
      have s0 := HS1.out.cell 0
      have s1 := HS1.out.cell 1
      have s2 := HS1.out.cell 2
      have s3 := HS1.out.cell 3
      have sf := HS1.out.frozen
      have slt := HS1.out.lt
      go_wp2_with fail
      have HT2 : Hid (TBf ((w1.setCell ⟨b + 1, 1, none⟩ (.int .u64 1)).alloc (.cells #[.bool false, .int .i64 lvl, .int .i64 d1, .int .i64 d2, .int .i64 d3] 161)) b V S T p) := Lib.hid (TBf.alloc (Blk.far HT1.out (by simp) _) _)
      have HS2 : Hid (Blk ((w1.setCell ⟨b + 1, 1, none⟩ (.int .u64 1)).alloc (.cells #[.bool false, .int .i64 lvl, .int .i64 d1, .int .i64 d2, .int .i64 d3] 161)) (b + 1) 149 #[.int .u64 1, .int .u64 (vx0 : Int), .int .u64 (own : Int), .int .u64 (own : Int)]) := Lib.hid (by rw [HV0.out]; exact (HS1.out.set_ 1 _).alloc _)
      have HA2 : Hid (TMf ((w1.setCell ⟨b + 1, 1, none⟩ (.int .u64 1)).alloc (.cells #[.bool false, .int .i64 lvl, .int .i64 d1, .int .i64 d2, .int .i64 d3] 161)) V S T p gb cap m g) := Lib.hid ((HA1.out.far HS1.out (by decide) (by decide) _).alloc _)
      have HO2 : Hid (Only p gb w ((w1.setCell ⟨b + 1, 1, none⟩ (.int .u64 1)).alloc (.cells #[.bool false, .int .i64 lvl, .int .i64 d1, .int .i64 d2, .int .i64 d3] 161))) := Lib.hid ((HO1.out.set_new (by omega) _).alloc _)
      clear HT1 HS1 HA1 HO1 y0 y1 y2 y3 y4 y5 hlt s0 s1 s2 s3 sf slt
      generalize (w1.setCell ⟨b + 1, 1, none⟩ (.int .u64 1)).alloc (.cells #[.bool false, .int .i64 lvl, .int .i64 d1, .int .i64 d2, .int .i64 d3] 161) = W2 at HT2 HS2 HA2 HO2 ⊢
      refine (tchildrenf HA2.out HX.out (by omega)).mono ?_; rintro e w3 ⟨rfl, A3, O3⟩; rw [HL.out, HRr.out]
      have HT3 := Lib.hid (HT2.out.only HA2.out O3)
      have HS3 := Lib.hid (HS2.out.treapf HA2.out O3 (by decide) (by decide))
      have HRel : Hid (RkRelf w b V S T p gb cap (m + 2) g (tri 1 n1 n2) (tri vx0 v1 v2) own (tri own a1 a2) (.int .i64 0) w3) := Lib.hid ⟨0, by omega, rfl, HT3.out, HS3.out, A3, HO2.out.trans O3⟩
      clear HT2 HS2 HA2 HO2 HT3 HS3 A3 O3
      go_wp2_with fail
      go_loopw [29] (fun i wr => RkRelf w b V S T p gb cap (m + 2) g (tri 1 n1 n2) (tri vx0 v1 v2) own (tri own a1 a2) i wr) (fun i _ => 2 - (intOf i).toNat)
      case atStart => exact HRel.out
      case round =>
        clear HRel
        obtain ⟨k, hk, rfl, hT, hS, hA, hO⟩ := hrel
        have HT := Lib.hid hT
        have HS := Lib.hid hS
        have HA3 := Lib.hid hA
        have HO3 := Lib.hid hO
        obtain ⟨y0, y1, y2, y3, y4, y5⟩ := hT.cells
        have hlt := hT.lt
        have sf := hS.frozen
        have slt := hS.lt
        clear hT hS hA hO
        have hk3 : k = 0 ∨ k = 1 ∨ k = 2 := by omega
        rcases hk3 with rfl | rfl | rfl
        · have s0 : wr.cell? ⟨b + 1, 0, none⟩ = some (.int .u64 1) := HS.out.cell 0
          have s1 : wr.cell? ⟨b + 1, 1, none⟩ = some (.int .u64 (vx0 : Int)) := HS.out.cell 1
          have s3 : wr.cell? ⟨b + 1, 3, none⟩ = some (.int .u64 (own : Int)) := HS.out.cell 3
          have ix : ∀ W, (Instr.index 97 (.agg #[.int .i64 (l : Int), .int .i64 (r : Int)]) (.int .i64 0)).run Try.prog W = .ok (.int .i64 (l : Int)) W := fun W => rfl
          go_wp2_with fail
          refine (tsumf HA3.out HLN.out (by omega)).mono ?_; rintro e w4 ⟨rfl, A4, O4⟩; rw [HSL.out]
          have HT4 := Lib.hid (HT.out.only HA3.out O4)
          have HS4 := Lib.hid (HS.out.treapf HA3.out O4 (by decide) (by decide))
          have HA4 := Lib.hid A4
          have HO4 := Lib.hid (HO3.out.trans O4)
          clear s0 s1 s3 y0 y1 y2 y3 y4 y5 hlt HT HS HA3 HO3 ix sf slt
          obtain ⟨y0, y1, y2, y3, y4, y5⟩ := HT4.out.cells
          have hlt := HT4.out.lt
          have s0 : w4.cell? ⟨b + 1, 0, none⟩ = some (.int .u64 1) := HS4.out.cell 0
          have s1 : w4.cell? ⟨b + 1, 1, none⟩ = some (.int .u64 (vx0 : Int)) := HS4.out.cell 1
          have s3 : w4.cell? ⟨b + 1, 3, none⟩ = some (.int .u64 (own : Int)) := HS4.out.cell 3
          have sf := HS4.out.frozen
          have slt := HS4.out.lt
          go_wp2_with fail
          go_roundw
          case rel => exact rk_nextf (nf := tri 1 n1 n2) (vf := tri vx0 v1 v2) (af := tri own a1 a2) (k := 0) (by omega) HT4.out HS4.out rfl HA4.out HO4.out hwb _
          case measure => simp [intOf]
        · have s0 : wr.cell? ⟨b + 1, 0, none⟩ = some (.int .u64 (n1 : Int)) := HS.out.cell 0
          have s1 : wr.cell? ⟨b + 1, 1, none⟩ = some (.int .u64 (v1 : Int)) := HS.out.cell 1
          have s3 : wr.cell? ⟨b + 1, 3, none⟩ = some (.int .u64 (a1 : Int)) := HS.out.cell 3
          have ix : ∀ W, (Instr.index 97 (.agg #[.int .i64 (l : Int), .int .i64 (r : Int)]) (.int .i64 1)).run Try.prog W = .ok (.int .i64 (r : Int)) W := fun W => rfl
          go_wp2_with fail
          refine (tsumf HA3.out HRN.out (by omega)).mono ?_; rintro e w4 ⟨rfl, A4, O4⟩; rw [HSR.out]
          have HT4 := Lib.hid (HT.out.only HA3.out O4)
          have HS4 := Lib.hid (HS.out.treapf HA3.out O4 (by decide) (by decide))
          have HA4 := Lib.hid A4
          have HO4 := Lib.hid (HO3.out.trans O4)
          clear s0 s1 s3 y0 y1 y2 y3 y4 y5 hlt HT HS HA3 HO3 ix sf slt
          obtain ⟨y0, y1, y2, y3, y4, y5⟩ := HT4.out.cells
          have hlt := HT4.out.lt
          have s0 : w4.cell? ⟨b + 1, 0, none⟩ = some (.int .u64 (n1 : Int)) := HS4.out.cell 0
          have s1 : w4.cell? ⟨b + 1, 1, none⟩ = some (.int .u64 (v1 : Int)) := HS4.out.cell 1
          have s3 : w4.cell? ⟨b + 1, 3, none⟩ = some (.int .u64 (a1 : Int)) := HS4.out.cell 3
          have sf := HS4.out.frozen
          have slt := HS4.out.lt
          go_wp2_with fail
          go_roundw
          case rel => exact rk_nextf (nf := tri 1 n1 n2) (vf := tri vx0 v1 v2) (af := tri own a1 a2) (k := 1) (by omega) HT4.out HS4.out rfl HA4.out HO4.out hwb _
          case measure => simp [intOf]
        · have s0 : wr.cell? ⟨b + 1, 0, none⟩ = some (.int .u64 (n2 : Int)) := HS.out.cell 0
          have s1 : wr.cell? ⟨b + 1, 1, none⟩ = some (.int .u64 (v2 : Int)) := HS.out.cell 1
          have s2 : wr.cell? ⟨b + 1, 2, none⟩ = some (.int .u64 (own : Int)) := HS.out.cell 2
          have s3 : wr.cell? ⟨b + 1, 3, none⟩ = some (.int .u64 (a2 : Int)) := HS.out.cell 3
          go_wp2_with fail
          refine (tstoref (k := 6) HA3.out kI6 HX.out HX1.out (by omega) (fun e => absurd e (by omega)) (fun e => absurd e (by omega)) HSW.out (by omega)).mono ?_; rintro e w4 ⟨rfl, A4, O4⟩
          have HA4 := Lib.hid A4
          have HO4 := Lib.hid (HO3.out.trans O4)
          clear A4 O4
          go_wp2_with fail
          go_end0
          exact ⟨rfl, HA4.out.more (by omega), HO4.out⟩
  exact main _ rfl

set_option maxHeartbeats 1000000 in
theorem talonef (A : TMf w V S T p gb cap m g) {x : Nat} (hx1 : 1 ≤ x) (hx : x ≤ nN V S) (h9 : isP V x = true → g x 8 ≠ 1) (hm : m ≤ 99999980) :
    Calls Try.prog 44 #[vTr V S T p, .int .i64 (x : Int)] w (Didf V S T p gb cap (m + 9) (aloneG (vxN V) g x) (.tuple #[]) w) := by
  have HX := Lib.hid hx
  have H9 : Hid (isP V x = true → g x 8 ≠ 1) := Lib.hid h9
  have HX1 := Lib.hid hx1
  have HA := Lib.hid A
  obtain ⟨G, hG⟩ : ∃ G, setP (up2 (up2 g x 3 0) x 4 0) x 0 = G := ⟨_, rfl⟩
  have HG := Lib.hid hG
  have HE : Hid (aloneG (vxN V) g x = reckG (vxN V) G x 0) := Lib.hid (by unfold aloneG; rw [hG])
  rw [HE.out]
  clear A hx hx1 hG h9
  go_enter Try.func44, Try.ntmps44
  go_wp2_with fail
  have HT : Hid (TBf (w.alloc (.cells #[.int .i64 V, .int .i64 S, .int .i64 T, .iface 84 (pmV p), .int .i64 1, .int .i64 0] 32)) w.heap.size V S T p) := Lib.hid (TBf.new _ _ _ _ _)
  have HA0 := Lib.hid (HA.out.alloc (.cells #[.int .i64 V, .int .i64 S, .int .i64 T, .iface 84 (pmV p), .int .i64 1, .int .i64 0] 32))
  have HO0 := Lib.hid ((Only.refl p gb w).alloc (.cells #[.int .i64 V, .int .i64 S, .int .i64 T, .iface 84 (pmV p), .int .i64 1, .int .i64 0] 32))
  have HBL : Hid (w.heap.size < (w.alloc (.cells #[.int .i64 V, .int .i64 S, .int .i64 T, .iface 84 (pmV p), .int .i64 1, .int .i64 0] 32)).heap.size) := Lib.hid (by simp)
  generalize hwb : w.heap.size = b at HT HBL ⊢
  generalize hW : w.alloc (.cells #[.int .i64 V, .int .i64 S, .int .i64 T, .iface 84 (pmV p), .int .i64 1, .int .i64 0] 32) = W at HT HA0 HO0 HBL ⊢
  clear hW
  have htb := tb_rulef b V S T p
  obtain ⟨y0, y1, y2, y3, y4, y5⟩ := HT.out.cells
  have hlt := HT.out.lt
  refine (tstoref (k := 3) (v := 0) HA0.out kI3 HX.out HX1.out (by omega) (fun e => absurd e (by omega)) (fun _ => by omega) (by omega) (by omega)).mono ?_; rintro e w1 ⟨rfl, A1, O1⟩
  have HT1 := Lib.hid (HT.out.only HA0.out O1)
  have HA1 := Lib.hid A1
  have HO1 := Lib.hid (HO0.out.trans O1)
  clear A1 O1 HT HA0 HO0 y0 y1 y2 y3 y4 y5 hlt
  obtain ⟨y0, y1, y2, y3, y4, y5⟩ := HT1.out.cells
  have hlt := HT1.out.lt
  go_wp2_with fail
  refine (tstoref (k := 4) (v := 0) HA1.out kI4 HX.out HX1.out (by omega) (fun e => absurd e (by omega)) (fun _ => by omega) (by omega) (by omega)).mono ?_; rintro e w2 ⟨rfl, A2, O2⟩
  have HT2 := Lib.hid (HT1.out.only HA1.out O2)
  have HA2 := Lib.hid A2
  have HO2 := Lib.hid (HO1.out.trans O2)
  clear A2 O2 HT1 HA1 HO1 y0 y1 y2 y3 y4 y5 hlt
  obtain ⟨y0, y1, y2, y3, y4, y5⟩ := HT2.out.cells
  have hlt := HT2.out.lt
  go_wp2_with fail
  refine (tsetParentf (v := 0) HA2.out HX.out (by omega) (fun hP e => H9.out hP (by rw [up2_field _ _ _ _ (by decide), up2_field _ _ _ _ (by decide)] at e; exact e)) (by omega)).mono ?_; rintro e w3 ⟨rfl, A3, O3⟩; rw [HG.out] at A3
  have HT3 := Lib.hid (HT2.out.only HA2.out O3)
  have HA3 := Lib.hid A3
  have HO3 := Lib.hid (HO2.out.trans O3)
  clear A3 O3 HT2 HA2 HO2 y0 y1 y2 y3 y4 y5 hlt
  obtain ⟨y0, y1, y2, y3, y4, y5⟩ := HT3.out.cells
  have hlt := HT3.out.lt
  go_wp2_with fail
  refine (treckonf (own := 0) HA3.out HX.out HX1.out (by omega) (by omega)).mono ?_; rintro e w4 ⟨rfl, A4, O4⟩
  have HA4 := Lib.hid A4
  have HO4 := Lib.hid (HO3.out.trans O4)
  clear A4 O4
  go_wp2_with fail
  go_end0
  exact ⟨rfl, HA4.out.more (by omega), HO4.out⟩
end

end Go.Proofs.Ytaooglagddphnaa
