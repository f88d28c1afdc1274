/- Hb: what BiPSound leans on. Printed by wip/tools/slim13.py. -/
import Derived.Test.YtaooglagddphnaaSZC
import Derived.Test.YtaooglagddphnaaSZB
import Derived.Test.YtaooglagddphnaaSZF
import Derived.Test.YtaooglagddphnaaSGa

namespace Go.Proofs.Ytaooglagddphnaa
open Go.RowKit

set_option maxRecDepth 100000

section
variable {V S T : Int} {f : Nat → Int} {g : Mg9} {w w' : World} {p gb cap m m' : Nat}
/-- The cells' numbers, and what the nodes have. -/
structure Rlf (V S T : Int) (f : Nat → Int) (g : Mg9) : Prop where
  z : ∀ k, g 0 k = 0
  c : ∀ x k, 1 ≤ x → x ≤ nN V S → 3 ≤ k → k ≤ 6 → f (cN V S T x k) = (g x k : Int)
  a : ∀ x, 1 ≤ x → x ≤ nN V S → isP V x = false → f (cN V S T x 2) = (g x 2 : Int)
  p : ∀ x, 1 ≤ x → x ≤ nN V S → isP V x = true → rightV (f (cN V S T x 2)) = true ∧ rN (f (cN V S T x 2)) = (g x 2 : Int)
  b : ∀ x, x ≤ nN V S → g x 2 ≤ nN V S ∧ g x 3 ≤ nN V S ∧ g x 4 ≤ nN V S
  o : ∀ i, (∀ x k, 1 ≤ x → x ≤ nN V S → 2 ≤ k → k ≤ 6 → i ≠ cN V S T x k) → f i = (g (nN V S + 1 + i) 5 : Int)
  e : ∀ x, 1 ≤ x → x ≤ nN V S → isP V x = true → g x 8 = 1 → f (cN V S T x 2) = (g x 7 : Int)

/-- Trees in memory: an arena, its counts' bound, what its nodes have. -/
structure TMf (w : World) (V S T : Int) (p gb cap m : Nat) (g : Mg9) : Prop where
  hR : Rt V S T
  ar : ∃ c f, Ar w p gb (cellsN V S T) cap c f ∧ CB c m ∧ Rlf V S T f g

theorem TMf.z (h : TMf w V S T p gb cap m g) (k : Nat) : g 0 k = 0 := by obtain ⟨_, _, _, _, r⟩ := h.ar; exact r.z k

theorem TMf.b (h : TMf w V S T p gb cap m g) {x : Nat} (hx : x ≤ nN V S) : g x 2 ≤ nN V S ∧ g x 3 ≤ nN V S ∧ g x 4 ≤ nN V S := by obtain ⟨_, _, _, _, r⟩ := h.ar; exact r.b x hx

theorem TMf.fit (h : TMf w V S T p gb cap m g) {x k : Nat} (hx : x ≤ nN V S) (h1 : 3 ≤ k) (h2 : k ≤ 6) : g x k ≤ 18446744073709551615 := by
  obtain ⟨c, f, A, _, r⟩ := h.ar
  by_cases h0 : x = 0
  · subst h0; rw [r.z]; omega
  · have e := r.c x k (by omega) hx h1 h2
    have := A.fit (cN V S T x k) (cN_lt h.hR (by omega) hx (by omega))
    omega

theorem TMf.below (h : TMf w V S T p gb cap m g) (hb : Below w.heap.size w w') : TMf w' V S T p gb cap m g := by
  obtain ⟨c, f, A, C, r⟩ := h.ar
  exact ⟨h.hR, c, f, A.below hb (Nat.le_refl _), C, r⟩

theorem TMf.more (h : TMf w V S T p gb cap m g) (hm : m ≤ m') : TMf w V S T p gb cap m' g := by
  obtain ⟨c, f, A, C, r⟩ := h.ar
  exact ⟨h.hR, c, f, A, C.more hm, r⟩

theorem TMf.drew (h : TMf w V S T p gb cap m g) : TMf w.drew V S T p gb cap m g := h.below (Below.refl _ _).drew

theorem TMf.alloc (h : TMf w V S T p gb cap m g) (o : Obj) : TMf (w.alloc o) V S T p gb cap m g := h.below ((Below.refl _ _).alloc (Nat.le_refl _) o)

theorem TMf.blk (h : TMf w V S T p gb cap m g) : (∃ cs, Blk w p 118 cs) ∧ ∃ zs, Blk w gb 51 zs := by
  obtain ⟨_, _, A, _⟩ := h.ar
  obtain ⟨zs, hz, _⟩ := A.cells
  exact ⟨⟨_, A.own⟩, ⟨zs, hz⟩⟩

theorem Blk.treapf {q : Nat} {ty : TypeId} {cs : Array Value} (h : Blk w q ty cs) (A : TMf w V S T p gb cap m g) (ho : Only p gb w w') (h1 : ty ≠ 118) (h2 : ty ≠ 51) : Blk w' q ty cs := by
  obtain ⟨⟨_, h3⟩, ⟨_, h4⟩⟩ := A.blk
  exact h.only ho (h.ne_ h3 h1) (h.ne_ h4 h2)

theorem TMf.far (h : TMf w V S T p gb cap m g) {q j : Nat} {ty : TypeId} {cs : Array Value} (hq : Blk w q ty cs) (h1 : ty ≠ 118) (h2 : ty ≠ 51) (u : Value) : TMf (w.setCell ⟨q, j, none⟩ u) V S T p gb cap m g := by
  obtain ⟨⟨_, h3⟩, ⟨_, h4⟩⟩ := h.blk
  obtain ⟨c, f, A, C, r⟩ := h.ar
  exact ⟨h.hR, c, f, A.q_far (hq.ne_ h3 h1) (hq.ne_ h4 h2) u, C, r⟩

def TBf (w : World) (b : Nat) (V S T : Int) (p : Nat) : Prop := Blk w b 32 #[.int .i64 V, .int .i64 S, .int .i64 T, .iface 84 (pmV p), .int .i64 1, .int .i64 0]

theorem TBf.new (w : World) (V S T : Int) (p : Nat) : TBf (w.alloc (.cells #[.int .i64 V, .int .i64 S, .int .i64 T, .iface 84 (pmV p), .int .i64 1, .int .i64 0] 32)) w.heap.size V S T p := Blk.new _ _ _

theorem TBf.lt {b : Nat} (h : TBf w b V S T p) : b < w.heap.size := Blk.lt h

theorem TBf.below {b : Nat} (h : TBf w b V S T p) (hb : Below w.heap.size w w') : TBf w' b V S T p := Blk.below h hb (Blk.lt h)

theorem TBf.only {b : Nat} (h : TBf w b V S T p) (A : TMf w V S T p gb cap m g) (ho : Only p gb w w') : TBf w' b V S T p := Blk.treapf h A ho (by decide) (by decide)

theorem TBf.drew {b : Nat} (h : TBf w b V S T p) : TBf w.drew b V S T p := h

theorem TBf.alloc {b : Nat} (h : TBf w b V S T p) (o : Obj) : TBf (w.alloc o) b V S T p := Blk.alloc h o

theorem TBf.cells {b : Nat} (h : TBf w b V S T p) : w.cell? ⟨b, 0, none⟩ = some (.int .i64 V) ∧ w.cell? ⟨b, 1, none⟩ = some (.int .i64 S) ∧ w.cell? ⟨b, 2, none⟩ = some (.int .i64 T) ∧ w.cell? ⟨b, 3, none⟩ = some (.iface 84 (pmV p)) ∧ w.cell? ⟨b, 4, none⟩ = some (.int .i64 1) ∧ w.cell? ⟨b, 5, none⟩ = some (.int .i64 0) :=
  ⟨Blk.cell h 0, Blk.cell h 1, Blk.cell h 2, Blk.cell h 3, Blk.cell h 4, Blk.cell h 5⟩

theorem Rlf.store (r : Rlf V S T f g) (hR : Rt V S T) {x k v : Nat} (h1 : 1 ≤ x) (h2 : x ≤ nN V S) (h3 : 3 ≤ k) (h4 : k ≤ 6) (hv : k ≤ 4 → v ≤ nN V S) : Rlf V S T (upd f (cN V S T x k) (v : Int)) (up2 g x k v) := by
  have ot : ∀ y, 1 ≤ y → upd f (cN V S T x k) (v : Int) (cN V S T y 2) = f (cN V S T y 2) := fun y hy => upd_other _ _ fun e => by have := (cN_inj hR hy h1 (by omega) (by omega) e).2; omega
  refine ⟨fun j => (up2_node _ _ _ _ (by omega)).trans (r.z j), fun y j y1 y2 j1 j2 => ?_, fun y y1 y2 hy => ?_, fun y y1 y2 hy => ?_, up2_b r.b hv, fun i hi => (upd_other _ _ (hi x k h1 h2 (by omega) h4)).trans ((r.o i hi).trans (by rw [up2_node _ _ _ _ (by omega)])), fun y y1 y2 hy h8 => by rw [up2_field _ _ _ _ (by omega)] at h8; rw [ot y y1, up2_field _ _ _ _ (by omega)]; exact r.e y y1 y2 hy h8⟩
  · by_cases e : y = x ∧ j = k
    · obtain ⟨rfl, rfl⟩ := e; rw [upd_same, up2_same]
    · rw [upd_other _ _ fun e' => e (cN_inj hR y1 h1 (by omega) (by omega) e')]
      unfold up2; rw [if_neg e]; exact r.c y j y1 y2 j1 j2
  · rw [ot y y1, up2_field _ _ _ _ (by omega)]; exact r.a y y1 y2 hy
  · rw [ot y y1, up2_field _ _ _ _ (by omega)]; exact r.p y y1 y2 hy

theorem Rlf.par_a (r : Rlf V S T f g) (hR : Rt V S T) {x v : Nat} (h1 : 1 ≤ x) (h2 : x ≤ nN V S) (hp : isP V x = false) (hv : v ≤ nN V S) : Rlf V S T (upd f (cN V S T x 2) (v : Int)) (up2 g x 2 v) := by
  refine ⟨fun j => (up2_node _ _ _ _ (by omega)).trans (r.z j), fun y j y1 y2 j1 j2 => ?_, fun y y1 y2 hy => ?_, fun y y1 y2 hy => ?_, up2_b r.b (fun _ => hv), fun i hi => (upd_other _ _ (hi x 2 h1 h2 (by omega) (by omega))).trans ((r.o i hi).trans (by rw [up2_node _ _ _ _ (by omega)])), fun y y1 y2 hy h8 => by
    have e : y ≠ x := fun e => by rw [e, hp] at hy; cases hy
    rw [up2_node _ _ _ _ e] at h8
    rw [upd_other _ _ fun e' => e (cN_inj hR y1 h1 (by omega) (by omega) e').1, up2_node _ _ _ _ e]; exact r.e y y1 y2 hy h8⟩
  · rw [upd_other _ _ fun e => by have := (cN_inj hR y1 h1 (by omega) (by omega) e).2; omega, up2_field _ _ _ _ (by omega)]; exact r.c y j y1 y2 j1 j2
  · by_cases e : y = x
    · subst e; rw [upd_same, up2_same]
    · rw [upd_other _ _ fun e' => e (cN_inj hR y1 h1 (by omega) (by omega) e').1, up2_node _ _ _ _ e]; exact r.a y y1 y2 hy
  · have e : y ≠ x := fun e => by rw [e, hp] at hy; cases hy
    rw [upd_other _ _ fun e' => e (cN_inj hR y1 h1 (by omega) (by omega) e').1, up2_node _ _ _ _ e]; exact r.p y y1 y2 hy

theorem Rlf.par_p (r : Rlf V S T f g) (hR : Rt V S T) {x v : Nat} {W : Int} (h1 : 1 ≤ x) (h2 : x ≤ nN V S) (hp : isP V x = true) (hv : v ≤ nN V S) (hw : rightV W = true) (hn : rN W = (v : Int)) (h9 : g x 8 ≠ 1) : Rlf V S T (upd f (cN V S T x 2) W) (up2 g x 2 v) := by
  refine ⟨fun j => (up2_node _ _ _ _ (by omega)).trans (r.z j), fun y j y1 y2 j1 j2 => ?_, fun y y1 y2 hy => ?_, fun y y1 y2 hy => ?_, up2_b r.b (fun _ => hv), fun i hi => (upd_other _ _ (hi x 2 h1 h2 (by omega) (by omega))).trans ((r.o i hi).trans (by rw [up2_node _ _ _ _ (by omega)])), fun y y1 y2 hy h8 => by
    by_cases e : y = x
    · subst e; rw [up2_field _ _ _ _ (by omega)] at h8; exact absurd h8 h9
    · rw [up2_node _ _ _ _ e] at h8
      rw [upd_other _ _ fun e' => e (cN_inj hR y1 h1 (by omega) (by omega) e').1, up2_node _ _ _ _ e]; exact r.e y y1 y2 hy h8⟩
  · rw [upd_other _ _ fun e => by have := (cN_inj hR y1 h1 (by omega) (by omega) e).2; omega, up2_field _ _ _ _ (by omega)]; exact r.c y j y1 y2 j1 j2
  · have e : y ≠ x := fun e => by rw [e, hp] at hy; cases hy
    rw [upd_other _ _ fun e' => e (cN_inj hR y1 h1 (by omega) (by omega) e').1, up2_node _ _ _ _ e]; exact r.a y y1 y2 hy
  · by_cases e : y = x
    · subst e; rw [upd_same, up2_same]; exact ⟨hw, hn⟩
    · rw [upd_other _ _ fun e' => e (cN_inj hR y1 h1 (by omega) (by omega) e').1, up2_node _ _ _ _ e]; exact r.p y y1 y2 hy

/-- What a call that loads and stores leaves. -/
def Didf (V S T : Int) (p gb cap m : Nat) (g : Mg9) (r : Value) (w : World) (e : Ending) (w' : World) : Prop := e = .returned r ∧ TMf w' V S T p gb cap m g ∧ Only p gb w w'

theorem tloadf (A : TMf w V S T p gb cap m g) {x k : Nat} {kI : Int} (hk : kI = (k : Int)) (hx : x ≤ nN V S) (hk7 : 2 ≤ k ∧ k ≤ 6) (hp : k = 2 → isP V x = false) (hm : m ≤ 100000000) :
    Calls Try.prog 124 #[vTr V S T p, .int .i64 (x : Int), .int .i64 kI] w (Didf V S T p gb cap (m + 1) g (.int .u64 (g x k : Int)) w) := by
  subst hk
  have ml := methp_load
  have nl := nilp_load
  have xI : (x : Int) ≤ 560 := by have := nN_le A.hR; omega
  have HA := Lib.hid A
  have HX := Lib.hid hx
  have HP := Lib.hid hp
  have HZ := Lib.hid (A.z k)
  clear A hx hp
  by_cases h0 : x = 0
  · have HF := Lib.hid (field_none V S T h0 (k : Int))
    have e0 : g x k = 0 := by rw [h0]; exact HZ.out
    have HE := Lib.hid e0
    have HH := Lib.hid h0
    clear h0 e0
    go_enter Try.func124, Try.ntmps124
    go_wp2_with fail
    refine (field_yes V S T (x : Int) (k : Int) HA.out.hR (by omega) (by omega) _).mono ?_; rintro e w1 ⟨rfl, hb1⟩; rw [HF.out]
    have HB := Lib.hid (keepL ((Below.refl _ _).alloc (Nat.le_refl _) _) hb1)
    clear hb1
    go_wp2_with fail
    rw [HE.out]
    go_ret
    exact ⟨rfl, (HA.out.below HB.out).more (by omega), Only.of_below HB.out⟩
  · have hx1 : 1 ≤ x := by omega
    have HF := Lib.hid (field_cN HA.out.hR hx1 HX.out (k := k) (by omega))
    have HL := Lib.hid (cN_lt HA.out.hR hx1 HX.out (k := k) (by omega))
    obtain ⟨c, f, A, C, r⟩ := HA.out.ar
    have ev : f (cN V S T x k) = (g x k : Int) := by
      by_cases h2 : k = 2
      · subst h2; exact r.a x hx1 HX.out (HP.out rfl)
      · exact r.c x k hx1 HX.out (by omega) (by omega)
    have HE := Lib.hid ev
    have HAr := Lib.hid A
    have HC := Lib.hid C
    have Hr := Lib.hid r
    clear ev h0 A C r
    generalize hq : cN V S T x k = q at HF HL HE
    clear hq
    go_enter Try.func124, Try.ntmps124
    go_wp2_with fail
    refine (field_yes V S T (x : Int) (k : Int) HA.out.hR (by omega) (by omega) _).mono ?_; rintro e w1 ⟨rfl, hb1⟩; rw [HF.out]
    obtain ⟨hc, hf⟩ := bcellL hb1
    have HB := Lib.hid (keepL ((Below.refl _ _).alloc (Nat.le_refl _) _) hb1)
    have HA1 := Lib.hid (HAr.out.below HB.out (Nat.le_refl _))
    have hlt := hb1.size
    clear hb1
    go_wp2_with fail
    refine (pm_load HA1.out HL.out HC.out hm).mono ?_; rintro e w2 ⟨rfl, A2, O2⟩; rw [HE.out]
    have HA2 := Lib.hid A2
    have HO2 := Lib.hid ((Only.of_below (p := p) (g := gb) HB.out).trans O2)
    clear A2 O2 hc hf
    go_wp2_with fail
    go_ret
    exact ⟨rfl, ⟨HA.out.hR, _, _, HA2.out, HC.out.upd 0, Hr.out⟩, HO2.out⟩

theorem tstoref (A : TMf w V S T p gb cap m g) {x k v : Nat} {kI : Int} (hk : kI = (k : Int)) (hx : x ≤ nN V S) (hx1 : 1 ≤ x) (hk7 : 2 ≤ k ∧ k ≤ 6) (hp : k = 2 → isP V x = false) (hv : k ≤ 4 → v ≤ nN V S) (hv64 : v ≤ 18446744073709551615) (hm : m ≤ 100000000) :
    Calls Try.prog 97 #[vTr V S T p, .int .i64 (x : Int), .int .i64 kI, .int .u64 (v : Int)] w (Didf V S T p gb cap (m + 1) (up2 g x k v) (.tuple #[]) w) := by
  subst hk
  have ml := methp_store
  have nl := nilp_store
  have xI : (x : Int) ≤ 560 := by have := nN_le A.hR; omega
  have HA := Lib.hid A
  have HX := Lib.hid hx
  have HF := Lib.hid (field_cN A.hR hx1 hx (k := k) (by omega))
  have HL := Lib.hid (cN_lt A.hR hx1 hx (k := k) (by omega))
  obtain ⟨c, f, A', C, r⟩ := A.ar
  have r' : Rlf V S T (upd f (cN V S T x k) (v : Int)) (up2 g x k v) := by
    by_cases h2 : k = 2
    · subst h2; exact r.par_a A.hR hx1 hx (hp rfl) (hv (by omega))
    · exact r.store A.hR hx1 hx (by omega) (by omega) hv
  have HAr := Lib.hid A'
  have HC := Lib.hid C
  have Hr := Lib.hid r'
  clear A A' C r r' hx hp
  generalize hq : cN V S T x k = q at HF HL Hr
  clear hq
  go_enter Try.func97, Try.ntmps97
  go_wp2_with fail
  refine (field_yes V S T (x : Int) (k : Int) HA.out.hR (by omega) (by omega) _).mono ?_; rintro e w1 ⟨rfl, hb1⟩; rw [HF.out]
  obtain ⟨hc, hf⟩ := bcellL hb1
  have HB := Lib.hid (keepL ((Below.refl _ _).alloc (Nat.le_refl _) _) hb1)
  have HA1 := Lib.hid (HAr.out.below HB.out (Nat.le_refl _))
  have hlt := hb1.size
  clear hb1
  go_wp2_with fail
  refine (pm_store HA1.out HL.out (by omega) (by omega) HC.out hm).mono ?_; rintro e w2 ⟨rfl, A2, O2⟩
  have HA2 := Lib.hid A2
  have HO2 := Lib.hid ((Only.of_below (p := p) (g := gb) HB.out).trans O2)
  clear A2 O2 hc hf
  go_wp2_with fail
  go_end0
  exact ⟨rfl, ⟨HA.out.hR, _, _, HA2.out, HC.out.upd 1, Hr.out⟩, HO2.out⟩

theorem tb_rulef (b : Nat) (V S T : Int) (p : Nat) : ∀ W : World, TBf W b V S T p → W.cell? ⟨b, 0, none⟩ = some (.int .i64 V) ∧ W.cell? ⟨b, 1, none⟩ = some (.int .i64 S) ∧ W.cell? ⟨b, 2, none⟩ = some (.int .i64 T) ∧ W.cell? ⟨b, 3, none⟩ = some (.iface 84 (pmV p)) ∧ W.cell? ⟨b, 4, none⟩ = some (.int .i64 1) ∧ W.cell? ⟨b, 5, none⟩ = some (.int .i64 0) := fun _ h => h.cells

theorem tchildf (A : TMf w V S T p gb cap m g) {x k : Nat} {kI : Int} (hk : kI = (k : Int)) (hx : x ≤ nN V S) (hk7 : k = 3 ∨ k = 4) (hm : m ≤ 100000000) :
    Calls Try.prog 139 #[vTr V S T p, .int .i64 (x : Int), .int .i64 kI] w (Didf V S T p gb cap (m + 1) g (.int .i64 (g x k : Int)) w) := by
  have hy : g x k ≤ nN V S := by rcases hk7 with rfl | rfl; exact (A.b hx).2.1; exact (A.b hx).2.2
  have yI : ((g x k : Nat) : Int) ≤ 560 := by have := nN_le A.hR; omega
  have hw : IntKind.i64.wrap ((g x k : Nat) : Int) = ((g x k : Nat) : Int) := IntWalk.i64_in _ (by omega)
  have HK := Lib.hid hk
  have HX := Lib.hid hx
  have HR := Lib.hid A.hR
  have HY := Lib.hid hy
  have HA := Lib.hid A
  have H7 : Hid (2 ≤ k ∧ k ≤ 6) := Lib.hid (by omega)
  have HP : Hid (k = 2 → isP V x = false) := Lib.hid fun e => by omega
  obtain ⟨y, hyv⟩ : ∃ y, g x k = y := ⟨_, rfl⟩
  have HV := Lib.hid hyv
  rw [hyv] at yI hw
  rw [hyv] at HY
  rw [hyv]
  clear A hx hk hk7 hy hyv
  go_enter Try.func139, Try.ntmps139
  go_wp2_with fail
  have HT : Hid (TBf (w.alloc (.cells #[.int .i64 V, .int .i64 S, .int .i64 T, .iface 84 (pmV p), .int .i64 1, .int .i64 0] 32)) w.heap.size V S T p) := Lib.hid (TBf.new _ _ _ _ _)
  have HA0 := Lib.hid (HA.out.alloc (.cells #[.int .i64 V, .int .i64 S, .int .i64 T, .iface 84 (pmV p), .int .i64 1, .int .i64 0] 32))
  have HO0 := Lib.hid ((Only.refl p gb w).alloc (.cells #[.int .i64 V, .int .i64 S, .int .i64 T, .iface 84 (pmV p), .int .i64 1, .int .i64 0] 32))
  have HBL : Hid (w.heap.size < (w.alloc (.cells #[.int .i64 V, .int .i64 S, .int .i64 T, .iface 84 (pmV p), .int .i64 1, .int .i64 0] 32)).heap.size) := Lib.hid (by simp)
  generalize hwb : w.heap.size = b at HT HBL ⊢
  generalize hW : w.alloc (.cells #[.int .i64 V, .int .i64 S, .int .i64 T, .iface 84 (pmV p), .int .i64 1, .int .i64 0] 32) = W at HT HA0 HO0 HBL ⊢
  clear hW
  have htb := tb_rulef b V S T p
  obtain ⟨y0, y1, y2, y3, y4, y5⟩ := HT.out.cells
  have hlt := HT.out.lt
  have HTd := Lib.hid HT.out.drew
  have HAd := Lib.hid HA0.out.drew
  have HOd := Lib.hid HO0.out.drew
  go_region_held3 (fun W => TBf W b V S T p) (first | (with_reducible assumption) | (with_reducible exact TBf.below (by assumption) hb1) | (with_reducible exact TBf.only (by assumption) (Hid.out (by assumption : Hid (TMf _ V S T p gb cap (m) g))) O2) | (with_reducible exact HTd.out))
    (first
      | (go_at_call 143; ((with_reducible refine (tnode_any HR.out HY.out p _).mono ?_); rintro e w' ⟨rfl, hb1⟩; have HA3 := Lib.hid (TMf.below (Hid.out (by assumption : Hid (TMf _ V S T p gb cap (m + 1) g))) hb1); have HO3 := Lib.hid (Only.trans (Hid.out (by assumption : Hid (Only p gb w _))) (Only.of_below hb1))))
      | (go_at_call 124; ((with_reducible refine (tloadf (Hid.out (by assumption : Hid (TMf _ V S T p gb cap (m) g))) HK.out HX.out H7.out HP.out hm).mono ?_); rintro e w2 ⟨rfl, A2, O2⟩; have HA2 := Lib.hid A2; have HO2 := Lib.hid (Only.trans (Hid.out (by assumption : Hid (Only p gb w _))) O2); rw [HV.out])))
  go_wp2_with fail
  go_ret
  exact ⟨rfl, HA3.out, HO3.out⟩

theorem tload6f (A : TMf w V S T p gb cap m g) {x : Nat} (hx : x ≤ nN V S) (hm : m ≤ 100000000) :
    Calls Try.prog 124 #[vTr V S T p, .int .i64 (x : Int), .int .i64 6] w (Didf V S T p gb cap (m + 1) g (.int .u64 (g x 6 : Int)) w) := tloadf (k := 6) A kI6 hx (by omega) (fun e => absurd e (by omega)) hm

theorem tchild3f (A : TMf w V S T p gb cap m g) {x : Nat} (hx : x ≤ nN V S) (hm : m ≤ 100000000) :
    Calls Try.prog 139 #[vTr V S T p, .int .i64 (x : Int), .int .i64 3] w (Didf V S T p gb cap (m + 1) g (.int .i64 (g x 3 : Int)) w) := tchildf (k := 3) A kI3 hx (.inl rfl) hm

theorem tchild4f (A : TMf w V S T p gb cap m g) {x : Nat} (hx : x ≤ nN V S) (hm : m ≤ 100000000) :
    Calls Try.prog 139 #[vTr V S T p, .int .i64 (x : Int), .int .i64 4] w (Didf V S T p gb cap (m + 1) g (.int .i64 (g x 4 : Int)) w) := tchildf (k := 4) A kI4 hx (.inr rfl) hm

set_option maxHeartbeats 1000000 in
theorem tsetParentf (A : TMf w V S T p gb cap m g) {x v : Nat} (hx : x ≤ nN V S) (hv : v ≤ nN V S) (h9 : isP V x = true → g x 8 ≠ 1) (hm : m ≤ 99999990) :
    Calls Try.prog 98 #[vTr V S T p, .int .i64 (x : Int), .int .i64 (v : Int)] w (Didf V S T p gb cap (m + 2) (setP g x v) (.tuple #[]) w) := by
  have xI : (x : Int) ≤ 560 := by have := nN_le A.hR; omega
  have vI : (v : Int) ≤ 560 := by have := nN_le A.hR; omega
  have hw : IntKind.u64.wrap (v : Int) = (v : Int) := IntWalk.u64_in _ (by omega)
  have HX := Lib.hid hx
  have HR := Lib.hid A.hR
  have HV := Lib.hid hv
  have HA := Lib.hid A
  by_cases hP : isP V x = true
  · have hx1 : 1 ≤ x := by have := (of_decide_eq_true hP).1; omega
    have HPt := Lib.hid hP
    have HF : Hid (fieldF V S T (x : Int) 2 = (cN V S T x 2 : Int)) := Lib.hid (field_cN HR.out hx1 hx (k := 2) (by omega))
    have HL := Lib.hid (cN_lt HR.out hx1 hx (k := 2) (by omega))
    have HI : Hid (∀ f, Rlf V S T f g → rightV (f (cN V S T x 2)) = true) := Lib.hid fun f r => (r.p x hx1 hx hP).1
    have HN : Hid (∀ f, Rlf V S T f g → Rlf V S T (upd f (cN V S T x 2) (bitsW (wrO (rO (f (cN V S T x 2))) (rN (f (cN V S T x 2))) (rT (f (cN V S T x 2))) (rG (f (cN V S T x 2))) 1 0) (v : Int) 1 0)) (setP g x v)) := Lib.hid fun f r => by
      have h := isW_bits (isW_wrO (v := f (cN V S T x 2)) (y := (v : Int)) (by omega) (by omega))
      rw [show setP g x v = up2 g x 2 v from if_neg (by omega)]
      exact r.par_p HR.out hx1 hx hP hv h.2 h.1.n (h9 hP)
    clear hx hv A hP h9
    generalize hq : cN V S T x 2 = q at HF HL HI HN
    clear hq
    go_enter Try.func98, Try.ntmps98
    go_wp2_with fail
    have HT : Hid (TBf (w.alloc (.cells #[.int .i64 V, .int .i64 S, .int .i64 T, .iface 84 (pmV p), .int .i64 1, .int .i64 0] 32)) w.heap.size V S T p) := Lib.hid (TBf.new _ _ _ _ _)
    have HA0 := Lib.hid (HA.out.alloc (.cells #[.int .i64 V, .int .i64 S, .int .i64 T, .iface 84 (pmV p), .int .i64 1, .int .i64 0] 32))
    have HO0 := Lib.hid ((Only.refl p gb w).alloc (.cells #[.int .i64 V, .int .i64 S, .int .i64 T, .iface 84 (pmV p), .int .i64 1, .int .i64 0] 32))
    have HBL : Hid (w.heap.size < (w.alloc (.cells #[.int .i64 V, .int .i64 S, .int .i64 T, .iface 84 (pmV p), .int .i64 1, .int .i64 0] 32)).heap.size) := Lib.hid (by simp)
    generalize hwb : w.heap.size = b at HT HBL ⊢
    generalize hW : w.alloc (.cells #[.int .i64 V, .int .i64 S, .int .i64 T, .iface 84 (pmV p), .int .i64 1, .int .i64 0] 32) = W at HT HA0 HO0 HBL ⊢
    clear hW
    have htb := tb_rulef b V S T p
    obtain ⟨y0, y1, y2, y3, y4, y5⟩ := HT.out.cells
    have hlt := HT.out.lt
    refine (isPointer_any HR.out HX.out p _).mono ?_; rintro e w1 ⟨rfl, hb1⟩; rw [HPt.out]
    replace HT := Lib.hid (HT.out.below hb1)
    replace HA0 := Lib.hid (HA0.out.below hb1)
    replace HO0 := Lib.hid (HO0.out.trans (Only.of_below hb1))
    clear hb1 y0 y1 y2 y3 y4 y5 hlt
    obtain ⟨y0, y1, y2, y3, y4, y5⟩ := HT.out.cells
    have hlt := HT.out.lt
    go_wp2_with fail
    obtain ⟨c, f, A1, C1, r1⟩ := HA0.out.ar
    have HAr := Lib.hid A1.drew
    have HC := Lib.hid C1
    have Hr := Lib.hid r1
    have HW := Lib.hid (isW_wrO (v := f q) (y := (v : Int)) (by omega) (by omega))
    clear A1 C1 r1
    have HTd := Lib.hid HT.out.drew
    have HAd := Lib.hid HA0.out.drew
    have HOd := Lib.hid HO0.out.drew
    go_region_held3 (fun W => TBf W b V S T p) (first | (with_reducible assumption) | (with_reducible exact TBf.below (by assumption) hb1) | (with_reducible exact TBf.only (by assumption) (Hid.out (by assumption : Hid (TMf _ V S T p gb cap m g))) O2) | (with_reducible exact HTd.out))
      (first
        | (go_at_call 37; ((with_reducible refine (field_yes V S T (x : Int) 2 HR.out (by omega) (by omega) _).mono ?_); rintro e w' ⟨rfl, hb1⟩; rw [HF.out]; have HAf := Lib.hid (TMf.below (Hid.out (by assumption : Hid (TMf _ V S T p gb cap m g))) hb1); have HOf := Lib.hid (Only.trans (Hid.out (by assumption : Hid (Only p gb w _))) (Only.of_below hb1)); have HAr1 := Lib.hid (HAr.out.below hb1 (Nat.le_refl _))))
        | (go_at_call 126; ((with_reducible refine (write_yes HAr1.out HL.out (isW_any _) (HI.out f Hr.out) HW.out HC.out hm).mono ?_); rintro e w2 ⟨rfl, A2, O2⟩; have HA2 : Hid (TMf w2 V S T p gb cap (m + 2) (setP g x v)) := Lib.hid ⟨HR.out, _, _, A2, (HC.out.upd 0).upd 1, HN.out f Hr.out⟩; have HO2 := Lib.hid (Only.trans (Hid.out (by assumption : Hid (Only p gb w _))) O2))))
    go_wp2_with fail
    go_end0
    exact ⟨rfl, HA2.out, HO2.out⟩
  · have hP' : isP V x = false := by simpa using hP
    have HPt := Lib.hid hP'
    by_cases h0 : x = 0
    · have HE : Hid (setP g x v = g) := Lib.hid (if_pos h0)
      have HF := Lib.hid (field_none V S T h0 2)
      rw [HE.out]
      clear hx hv A hP h9 hP' h0
      go_enter Try.func98, Try.ntmps98
      go_wp2_with fail
      have HT : Hid (TBf (w.alloc (.cells #[.int .i64 V, .int .i64 S, .int .i64 T, .iface 84 (pmV p), .int .i64 1, .int .i64 0] 32)) w.heap.size V S T p) := Lib.hid (TBf.new _ _ _ _ _)
      have HA0 := Lib.hid (HA.out.alloc (.cells #[.int .i64 V, .int .i64 S, .int .i64 T, .iface 84 (pmV p), .int .i64 1, .int .i64 0] 32))
      have HO0 := Lib.hid ((Only.refl p gb w).alloc (.cells #[.int .i64 V, .int .i64 S, .int .i64 T, .iface 84 (pmV p), .int .i64 1, .int .i64 0] 32))
      have HBL : Hid (w.heap.size < (w.alloc (.cells #[.int .i64 V, .int .i64 S, .int .i64 T, .iface 84 (pmV p), .int .i64 1, .int .i64 0] 32)).heap.size) := Lib.hid (by simp)
      generalize hwb : w.heap.size = b at HT HBL ⊢
      generalize hW : w.alloc (.cells #[.int .i64 V, .int .i64 S, .int .i64 T, .iface 84 (pmV p), .int .i64 1, .int .i64 0] 32) = W at HT HA0 HO0 HBL ⊢
      clear hW
      have htb := tb_rulef b V S T p
      obtain ⟨y0, y1, y2, y3, y4, y5⟩ := HT.out.cells
      have hlt := HT.out.lt
      refine (isPointer_any HR.out HX.out p _).mono ?_; rintro e w1 ⟨rfl, hb1⟩; rw [HPt.out]
      replace HT := Lib.hid (HT.out.below hb1)
      replace HA0 := Lib.hid (HA0.out.below hb1)
      replace HO0 := Lib.hid (HO0.out.trans (Only.of_below hb1))
      clear hb1 y0 y1 y2 y3 y4 y5 hlt
      obtain ⟨y0, y1, y2, y3, y4, y5⟩ := HT.out.cells
      have hlt := HT.out.lt
      go_wp2_with fail
      refine (store_none HR.out HX.out HF.out p v _).mono ?_; rintro e w2 ⟨rfl, hb2⟩
      have HA2 := Lib.hid ((HA0.out.below hb2).more (m' := m + 2) (by omega))
      have HO2 := Lib.hid (HO0.out.trans (Only.of_below hb2))
      go_wp2_with fail
      go_end0
      exact ⟨rfl, HA2.out, HO2.out⟩
    · have HE : Hid (setP g x v = up2 g x 2 v) := Lib.hid (if_neg h0)
      have H0 : Hid (1 ≤ x) := Lib.hid (by omega)
      have H7 : Hid (v ≤ 18446744073709551615) := Lib.hid (by omega)
      rw [HE.out]
      clear hx hv A hP h9 hP' h0
      go_enter Try.func98, Try.ntmps98
      go_wp2_with fail
      have HT : Hid (TBf (w.alloc (.cells #[.int .i64 V, .int .i64 S, .int .i64 T, .iface 84 (pmV p), .int .i64 1, .int .i64 0] 32)) w.heap.size V S T p) := Lib.hid (TBf.new _ _ _ _ _)
      have HA0 := Lib.hid (HA.out.alloc (.cells #[.int .i64 V, .int .i64 S, .int .i64 T, .iface 84 (pmV p), .int .i64 1, .int .i64 0] 32))
      have HO0 := Lib.hid ((Only.refl p gb w).alloc (.cells #[.int .i64 V, .int .i64 S, .int .i64 T, .iface 84 (pmV p), .int .i64 1, .int .i64 0] 32))
      have HBL : Hid (w.heap.size < (w.alloc (.cells #[.int .i64 V, .int .i64 S, .int .i64 T, .iface 84 (pmV p), .int .i64 1, .int .i64 0] 32)).heap.size) := Lib.hid (by simp)
      generalize hwb : w.heap.size = b at HT HBL ⊢
      generalize hW : w.alloc (.cells #[.int .i64 V, .int .i64 S, .int .i64 T, .iface 84 (pmV p), .int .i64 1, .int .i64 0] 32) = W at HT HA0 HO0 HBL ⊢
      clear hW
      have htb := tb_rulef b V S T p
      obtain ⟨y0, y1, y2, y3, y4, y5⟩ := HT.out.cells
      have hlt := HT.out.lt
      refine (isPointer_any HR.out HX.out p _).mono ?_; rintro e w1 ⟨rfl, hb1⟩; rw [HPt.out]
      replace HT := Lib.hid (HT.out.below hb1)
      replace HA0 := Lib.hid (HA0.out.below hb1)
      replace HO0 := Lib.hid (HO0.out.trans (Only.of_below hb1))
      clear hb1 y0 y1 y2 y3 y4 y5 hlt
      obtain ⟨y0, y1, y2, y3, y4, y5⟩ := HT.out.cells
      have hlt := HT.out.lt
      go_wp2_with fail
      refine (tstoref (k := 2) HA0.out kI2 HX.out H0.out (by omega) (fun _ => HPt.out) (fun _ => HV.out) H7.out (by omega)).mono ?_; rintro e w2 ⟨rfl, A2, O2⟩
      have HA2 := Lib.hid (A2.more (m' := m + 2) (by omega))
      have HO2 := Lib.hid (HO0.out.trans O2)
      go_wp2_with fail
      go_end0
      exact ⟨rfl, HA2.out, HO2.out⟩

structure TCf (W : World) (b c : Nat) (V S T : Int) (p : Nat) : Prop where
  t : TBf W b V S T p
  r : PB W c

theorem TCf.below {b c : Nat} (h : TCf w b c V S T p) (hb : Below w.heap.size w w') : TCf w' b c V S T p := by
  obtain ⟨t, a, d, r⟩ := h
  exact ⟨t.below hb, a, d, r.below hb r.lt⟩

theorem TCf.only {b c : Nat} (h : TCf w b c V S T p) (A : TMf w V S T p gb cap m g) (ho : Only p gb w w') : TCf w' b c V S T p := by
  obtain ⟨t, a, d, r⟩ := h
  exact ⟨t.only A ho, a, d, r.treapf A ho (by decide) (by decide)⟩

theorem TCf.drew {b c : Nat} (h : TCf w b c V S T p) : TCf w.drew b c V S T p := h.below (Below.refl _ _).drew

theorem TCf.set {b c : Nat} (h : TCf w b c V S T p) (u v : Value) : TCf ((w.setCell ⟨c, 0, none⟩ u).setCell ⟨c, 1, none⟩ v) b c V S T p := by
  obtain ⟨t, a, d, r⟩ := h
  have hne : b ≠ c := Blk.ne_ t r (by decide)
  exact ⟨Blk.far (Blk.far t hne u) hne v, u, v, (r.set_ 0 u).set_ 1 v⟩

theorem tc_rulef (b c : Nat) (V S T : Int) (p : Nat) : ∀ W : World, TCf W b c V S T p → W.cell? ⟨b, 0, none⟩ = some (.int .i64 V) ∧ W.cell? ⟨b, 1, none⟩ = some (.int .i64 S) ∧ W.cell? ⟨b, 2, none⟩ = some (.int .i64 T) ∧ W.cell? ⟨b, 3, none⟩ = some (.iface 84 (pmV p)) ∧ W.cell? ⟨b, 4, none⟩ = some (.int .i64 1) ∧ W.cell? ⟨b, 5, none⟩ = some (.int .i64 0) ∧ W.cell? ⟨c, 0, none⟩ = some (zAt W c 0) ∧ W.cell? ⟨c, 1, none⟩ = some (zAt W c 1) ∧ W.frozen? ⟨c, 0, none⟩ = false ∧ W.frozen? ⟨c, 1, none⟩ = false := fun W h => by
  obtain ⟨y0, y1, y2, y3, y4, y5⟩ := h.t.cells
  obtain ⟨_, a, d, r⟩ := h
  have e0 := r.cell 0
  have e1 := r.cell 1
  exact ⟨y0, y1, y2, y3, y4, y5, by unfold zAt; rw [e0]; rfl, by unfold zAt; rw [e1]; rfl, r.frozen 0, r.frozen 1⟩

theorem tsumf (A : TMf w V S T p gb cap m g) {x : Nat} (hx : x ≤ nN V S) (hm : m ≤ 100000000) :
    Calls Try.prog 94 #[vTr V S T p, .int .i64 (x : Int)] w (Didf V S T p gb cap (m + 1) g (vSm (g x 6)) w) := by
  have fit := A.fit (k := 6) hx (by omega) (by omega)
  obtain ⟨q1, q2, q3, q4⟩ := sum_bits fit
  have HX := Lib.hid hx
  have HA := Lib.hid A
  have fI : (g x 6 : Int) ≤ 18446744073709551615 := by omega
  obtain ⟨s, hs⟩ : ∃ s, g x 6 = s := ⟨_, rfl⟩
  have HV := Lib.hid hs
  rw [hs] at q1 q2 q3 q4 fI
  rw [hs]
  clear hx A fit hs
  go_enter Try.func94, Try.ntmps94
  go_wp2_with fail
  have HT : Hid (TBf (w.alloc (.cells #[.int .i64 V, .int .i64 S, .int .i64 T, .iface 84 (pmV p), .int .i64 1, .int .i64 0] 32)) w.heap.size V S T p) := Lib.hid (TBf.new _ _ _ _ _)
  have HA0 := Lib.hid (HA.out.alloc (.cells #[.int .i64 V, .int .i64 S, .int .i64 T, .iface 84 (pmV p), .int .i64 1, .int .i64 0] 32))
  have HO0 := Lib.hid ((Only.refl p gb w).alloc (.cells #[.int .i64 V, .int .i64 S, .int .i64 T, .iface 84 (pmV p), .int .i64 1, .int .i64 0] 32))
  have HS0 : Hid (Blk ((w.alloc (.cells #[.int .i64 V, .int .i64 S, .int .i64 T, .iface 84 (pmV p), .int .i64 1, .int .i64 0] 32)).alloc (.cells #[.int .u64 0, .int .u64 0, .int .u64 0, .int .u64 0] 149)) (w.heap.size + 1) 149 #[.int .u64 0, .int .u64 0, .int .u64 0, .int .u64 0]) := Lib.hid (new_next w _ _ _ _)
  replace HT := Lib.hid (HT.out.alloc (.cells #[.int .u64 0, .int .u64 0, .int .u64 0, .int .u64 0] 149))
  replace HA0 := Lib.hid (HA0.out.alloc (.cells #[.int .u64 0, .int .u64 0, .int .u64 0, .int .u64 0] 149))
  replace HO0 := Lib.hid (HO0.out.alloc (.cells #[.int .u64 0, .int .u64 0, .int .u64 0, .int .u64 0] 149))
  generalize hwb : w.heap.size = b at HT HS0 ⊢
  generalize hW : (w.alloc (.cells #[.int .i64 V, .int .i64 S, .int .i64 T, .iface 84 (pmV p), .int .i64 1, .int .i64 0] 32)).alloc (.cells #[.int .u64 0, .int .u64 0, .int .u64 0, .int .u64 0] 149) = W at HT HA0 HO0 HS0 ⊢
  clear hW
  have htb := tb_rulef b V S T p
  obtain ⟨y0, y1, y2, y3, y4, y5⟩ := HT.out.cells
  have hlt := HT.out.lt
  refine (tload6f HA0.out HX.out hm).mono ?_; rintro e w1 ⟨rfl, A1, O1⟩; rw [HV.out]
  have HS1 := Lib.hid (HS0.out.treapf HA0.out O1 (by decide) (by decide))
  have HA1 := Lib.hid A1
  have HO1 := Lib.hid (HO0.out.trans O1)
  have hs0 := HS1.out.cell 0
  have hs1 := HS1.out.cell 1
  have hs2 := HS1.out.cell 2
  have hs3 := HS1.out.cell 3
  have hsf := HS1.out.frozen
  clear A1 O1
  go_wp2_with fail
  have hA2 := ((((HA1.out.far HS1.out (by decide) (by decide) (j := 0) (.int .u64 (nS s : Int))).far (HS1.out.set_ 0 _) (by decide) (by decide) (j := 1) (.int .u64 (vS s : Int))).far ((HS1.out.set_ 0 _).set_ 1 _) (by decide) (by decide) (j := 2) (.int .u64 (oS s : Int))).far (((HS1.out.set_ 0 _).set_ 1 _).set_ 2 _) (by decide) (by decide) (j := 3) (.int .u64 (aS s : Int)))
  have HS2 := ((((HS1.out.set_ 0 (.int .u64 (nS s : Int))).set_ 1 (.int .u64 (vS s : Int))).set_ 2 (.int .u64 (oS s : Int))).set_ 3 (.int .u64 (aS s : Int)))
  have e0 := HS2.cell 0
  have e1 := HS2.cell 1
  have e2 := HS2.cell 2
  have e3 := HS2.cell 3
  exact bodyPost_ret (v := vSm s) (by simp [results, Try.results94, go_sem, e0, e1, e2, e3]) rfl ⟨rfl, hA2, (((HO1.out.set_new (by omega) _).set_new (by omega) _).set_new (by omega) _).set_new (by omega) _⟩

set_option maxHeartbeats 1000000 in
theorem tchildrenf (A : TMf w V S T p gb cap m g) {x : Nat} (hx : x ≤ nN V S) (hm : m ≤ 99999999) :
    Calls Try.prog 127 #[vTr V S T p, .int .i64 (x : Int)] w (Didf V S T p gb cap (m + 2) g (.agg #[.int .i64 (g x 3 : Int), .int .i64 (g x 4 : Int)]) w) := by
  have hm' : m + 1 ≤ 100000000 := by omega
  replace hm : m ≤ 100000000 := by omega
  have HX := Lib.hid hx
  have HA := Lib.hid A
  obtain ⟨l, hl⟩ : ∃ l, g x 3 = l := ⟨_, rfl⟩
  obtain ⟨r, hr⟩ : ∃ r, g x 4 = r := ⟨_, rfl⟩
  have HL := Lib.hid hl
  have HRr := Lib.hid hr
  rw [hl, hr]
  clear hx A hl hr
  go_enter Try.func127, Try.ntmps127
  go_wp2_with fail
  have HT : Hid (TBf (w.alloc (.cells #[.int .i64 V, .int .i64 S, .int .i64 T, .iface 84 (pmV p), .int .i64 1, .int .i64 0] 32)) w.heap.size V S T p) := Lib.hid (TBf.new _ _ _ _ _)
  have HA0 := Lib.hid (HA.out.alloc (.cells #[.int .i64 V, .int .i64 S, .int .i64 T, .iface 84 (pmV p), .int .i64 1, .int .i64 0] 32))
  have HO0 := Lib.hid ((Only.refl p gb w).alloc (.cells #[.int .i64 V, .int .i64 S, .int .i64 T, .iface 84 (pmV p), .int .i64 1, .int .i64 0] 32))
  have HS0 : Hid (Blk ((w.alloc (.cells #[.int .i64 V, .int .i64 S, .int .i64 T, .iface 84 (pmV p), .int .i64 1, .int .i64 0] 32)).alloc (.cells #[.int .i64 0, .int .i64 0] 97)) (w.heap.size + 1) 97 #[.int .i64 0, .int .i64 0]) := Lib.hid (new_next w _ _ _ _)
  replace HT := Lib.hid (HT.out.alloc (.cells #[.int .i64 0, .int .i64 0] 97))
  replace HA0 := Lib.hid (HA0.out.alloc (.cells #[.int .i64 0, .int .i64 0] 97))
  replace HO0 := Lib.hid (HO0.out.alloc (.cells #[.int .i64 0, .int .i64 0] 97))
  generalize hwb : w.heap.size = b at HT HS0 ⊢
  generalize hW : (w.alloc (.cells #[.int .i64 V, .int .i64 S, .int .i64 T, .iface 84 (pmV p), .int .i64 1, .int .i64 0] 32)).alloc (.cells #[.int .i64 0, .int .i64 0] 97) = W at HT HA0 HO0 HS0 ⊢
  clear hW
  have htb := tb_rulef b V S T p
  obtain ⟨y0, y1, y2, y3, y4, y5⟩ := HT.out.cells
  have hlt := HT.out.lt
  have HTC : Hid (TCf W b (b + 1) V S T p) := Lib.hid ⟨HT.out, _, _, HS0.out⟩
  have HTd := Lib.hid HTC.out.drew
  have HAd := Lib.hid HA0.out.drew
  have HOd := Lib.hid HO0.out.drew
  have htc := tc_rulef b (b + 1) V S T p
  have e0 := HS0.out.cell 0
  have e1 := HS0.out.cell 1
  have e2 := HS0.out.frozen
  clear htb
  go_region_held3 (fun W => TCf W b (b + 1) V S T p) (first | (with_reducible assumption) | (with_reducible exact TCf.set (by assumption) _ _) | (with_reducible exact TCf.only (by assumption) (Hid.out (by assumption : Hid (TMf _ V S T p gb cap m g))) O2) | (with_reducible exact TCf.only (by assumption) (Hid.out (by assumption : Hid (TMf _ V S T p gb cap (m + 1) g))) O2) | (with_reducible exact HTd.out))
    (first
      | (go_at_call 139; ((with_reducible refine (tchild3f (Hid.out (by assumption : Hid (TMf _ V S T p gb cap (m) g))) HX.out hm).mono ?_); rintro e w2 ⟨rfl, A2, O2⟩; have HA2 := Lib.hid A2; have HO2 := Lib.hid (Only.trans (Hid.out (by assumption : Hid (Only p gb w _))) O2); rw [HL.out]; have HT2 := Lib.hid (TCf.only (by assumption) (Hid.out (by assumption : Hid (TMf _ V S T p gb cap (m) g))) O2)))
      | (go_at_call 139; ((with_reducible refine (tchild3f (Hid.out (by assumption : Hid (TMf _ V S T p gb cap (m + 1) g))) HX.out hm').mono ?_); rintro e w2 ⟨rfl, A2, O2⟩; have HA3 := Lib.hid A2; have HO3 := Lib.hid (Only.trans (Hid.out (by assumption : Hid (Only p gb w _))) O2); rw [HL.out]; have HT2 := Lib.hid (TCf.only (by assumption) (Hid.out (by assumption : Hid (TMf _ V S T p gb cap (m + 1) g))) O2)))
      | (go_at_call 139; ((with_reducible refine (tchild4f (Hid.out (by assumption : Hid (TMf _ V S T p gb cap (m) g))) HX.out hm).mono ?_); rintro e w2 ⟨rfl, A2, O2⟩; have HA2 := Lib.hid A2; have HO2 := Lib.hid (Only.trans (Hid.out (by assumption : Hid (Only p gb w _))) O2); rw [HRr.out]; have HT2 := Lib.hid (TCf.only (by assumption) (Hid.out (by assumption : Hid (TMf _ V S T p gb cap (m) g))) O2)))
      | (go_at_call 139; ((with_reducible refine (tchild4f (Hid.out (by assumption : Hid (TMf _ V S T p gb cap (m + 1) g))) HX.out hm').mono ?_); rintro e w2 ⟨rfl, A2, O2⟩; have HA3 := Lib.hid A2; have HO3 := Lib.hid (Only.trans (Hid.out (by assumption : Hid (Only p gb w _))) O2); rw [HRr.out]; have HT2 := Lib.hid (TCf.only (by assumption) (Hid.out (by assumption : Hid (TMf _ V S T p gb cap (m + 1) g))) O2))))
  all_goals
    obtain ⟨_, a0, b0, hblk⟩ := HT2.out
    have HS2 := (hblk.set_ 0 (.int .i64 (l : Int))).set_ 1 (.int .i64 (r : Int))
    have f0 := HS2.cell 0
    have f1 := HS2.cell 1
    have hA2 := (HA3.out.far hblk (by decide) (by decide) (j := 0) (.int .i64 (l : Int))).far (hblk.set_ 0 _) (by decide) (by decide) (j := 1) (.int .i64 (r : Int))
    clear htc
    go_wp2_with fail
    exact bodyPost_ret (v := .agg #[.int .i64 (l : Int), .int .i64 (r : Int)]) (by simp [results, Try.results127, go_sem, f0, f1]) rfl ⟨rfl, hA2, (HO3.out.set_new (by omega) _).set_new (by omega) _⟩

/-- In the loop: k of two children are reckoned. -/
def RkRelf (w0 : World) (b : Nat) (V S T : Int) (p gb cap m : Nat) (g : Mg9) (nf vf : Nat → Nat) (own : Nat) (af : Nat → Nat) (i : Value) (W : World) : Prop :=
  ∃ k, k ≤ 2 ∧ i = .int .i64 ((k : Nat) : Int) ∧ TBf W b V S T p ∧ Blk W (b + 1) 149 #[.int .u64 (nf k : Int), .int .u64 (vf k : Int), .int .u64 (own : Int), .int .u64 (af k : Int)] ∧ TMf W V S T p gb cap (m + k) g ∧ Only p gb w0 W

theorem rk_nextf {w0 w4 : World} {b own k : Nat} {nf vf af : Nat → Nat} {x0 x1 x2 x3 : Value} (hk : k + 1 ≤ 2) (HT : TBf w4 b V S T p) (HS : Blk w4 (b + 1) 149 #[x0, x1, x2, x3]) (h2 : x2 = .int .u64 (own : Int)) (HA : TMf w4 V S T p gb cap (m + k + 1) g) (HO : Only p gb w0 w4) (hb : w0.heap.size = b) (o : Obj) :
    RkRelf w0 b V S T p gb cap m g nf vf own af (.int .i64 ((k + 1 : Nat) : Int)) ((((w4.setCell ⟨b + 1, 0, none⟩ (.int .u64 (nf (k + 1) : Int))).setCell ⟨b + 1, 1, none⟩ (.int .u64 (vf (k + 1) : Int))).setCell ⟨b + 1, 3, none⟩ (.int .u64 (af (k + 1) : Int))).alloc o) := by
  subst h2
  have hne : b ≠ b + 1 := by omega
  have B1 := HS.set_ 0 (.int .u64 (nf (k + 1) : Int))
  have B2 := B1.set_ 1 (.int .u64 (vf (k + 1) : Int))
  have B3 := B2.set_ 3 (.int .u64 (af (k + 1) : Int))
  exact ⟨k + 1, hk, rfl, Blk.alloc (Blk.far (Blk.far (Blk.far HT hne _) hne _) hne _) o, B3.alloc o, (((HA.far HS (by decide) (by decide) _).far B1 (by decide) (by decide) _).far B2 (by decide) (by decide) _).alloc o, (((HO.set_new (by omega) _).set_new (by omega) _).set_new (by omega) _).alloc o⟩

set_option maxHeartbeats 2000000 in
theorem treckonf (A : TMf w V S T p gb cap m g) {x own : Nat} (hx : x ≤ nN V S) (hx1 : 1 ≤ x) (ho : own < 4) (hm : m ≤ 99999990) :
    Calls Try.prog 99 #[vTr V S T p, .int .i64 (x : Int), .int .u64 (own : Int)] w (Didf V S T p gb cap (m + 5) (reckG (vxN V) g x own) (.tuple #[]) w) := by
  have HX := Lib.hid hx
  have HX1 := Lib.hid hx1
  have HA := Lib.hid A
  have HR := Lib.hid A.hR
  have HLN := Lib.hid (A.b hx).2.1
  have HRN := Lib.hid (A.b hx).2.2
  obtain ⟨l, hl⟩ : ∃ l, g x 3 = l := ⟨_, rfl⟩
  obtain ⟨r, hr⟩ : ∃ r, g x 4 = r := ⟨_, rfl⟩
  rw [hl] at HLN
  rw [hr] at HRN
  obtain ⟨sl, hsl⟩ : ∃ sl, g l 6 = sl := ⟨_, rfl⟩
  obtain ⟨sr, hsr⟩ : ∃ sr, g r 6 = sr := ⟨_, rfl⟩
  have HL := Lib.hid hl
  have HRr := Lib.hid hr
  have HSL := Lib.hid hsl
  have HSR := Lib.hid hsr
  have HG : Hid (reckG (vxN V) g x own = up2 g x 6 (packW (1 + nS sl + nS sr) ((if vxN V x then 1 else 0) + vS sl + vS sr) own (own ||| aS sl ||| aS sr))) := Lib.hid (by unfold reckG; rw [hl, hr, hsl, hsr])
  rw [HG.out]
  obtain ⟨vx0, hvx⟩ : ∃ v : Nat, (if vxN V x then 1 else 0) = v := ⟨_, rfl⟩
  have HVX := Lib.hid hvx
  rw [hvx]
  clear hl hr hsl hsr hx hx1 hvx HG
  have hb5 : vx0 ≤ 1 := by have := HVX.out; split at this <;> omega
  obtain ⟨n1, n2, en1, en2⟩ : ∃ n1 n2, n1 = 1 + nS sl ∧ n2 = 1 + nS sl + nS sr := ⟨_, _, rfl, rfl⟩
  obtain ⟨v1, v2, ev1, ev2⟩ : ∃ v1 v2, v1 = vx0 + vS sl ∧ v2 = vx0 + vS sl + vS sr := ⟨_, _, rfl, rfl⟩
  obtain ⟨a1, a2, ea1, ea2⟩ : ∃ a1 a2, a1 = own ||| aS sl ∧ a2 = own ||| aS sl ||| aS sr := ⟨_, _, rfl, rfl⟩
  have hn2 : n2 ≤ 200000 := by have := nS_lt sl; have := nS_lt sr; omega
  have hv2 : v2 ≤ 200000 := by have := vS_lt sl; have := vS_lt sr; omega
  have ha1 : a1 < 4 := by rw [ea1]; exact or_lt4 ho (aS_lt sl)
  have ha2 : a2 < 4 := by rw [ea2]; exact or_lt4 (or_lt4 ho (aS_lt sl)) (aS_lt sr)
  have q1 : 1 + (nS sl : Int) = (n1 : Int) := by omega
  have q2 : (n1 : Int) + (nS sr : Int) = (n2 : Int) := by omega
  have q3 : (vx0 : Int) + (vS sl : Int) = (v1 : Int) := by omega
  have q4 : (v1 : Int) + (vS sr : Int) = (v2 : Int) := by omega
  have q5 : bits .or .u64 (own : Int) (aS sl : Int) = (a1 : Int) := by rw [ea1]; exact u64_or_nat _ _ (by omega) (by have := aS_lt sl; omega)
  have q6 : bits .or .u64 (a1 : Int) (aS sr : Int) = (a2 : Int) := by rw [ea2, ← ea1]; exact u64_or_nat _ _ (by omega) (by have := aS_lt sr; omega)
  have hn1 : (n1 : Int) ≤ 200000 := by omega
  have hn2' : (n2 : Int) ≤ 200000 := by omega
  have hv1 : (v1 : Int) ≤ 200000 := by omega
  have hv2' : (v2 : Int) ≤ 200000 := by omega
  have ha2' : (a2 : Int) ≤ 3 := by omega
  have hoI : (own : Int) ≤ 3 := by omega
  obtain ⟨SW, hSW⟩ : ∃ SW, packW n2 v2 own a2 = SW := ⟨_, rfl⟩
  have q7 : bits .or .u64 (bits .or .u64 (bits .or .u64 (n2 : Int) ((v2 : Int) * 65536)) ((own : Int) * 4294967296)) ((a2 : Int) * 17179869184) = (SW : Int) := by rw [← hSW]; exact sum_pack (by omega) (by omega) ho ha2
  have HSW : Hid (SW ≤ 18446744073709551615) := Lib.hid (by have := packW_lt (n := n2) (v := v2) (o := own) (a := a2) (by omega) (by omega) ho ha2; omega)
  rw [← en2, ← ev2, ← ea2, hSW]
  clear en1 en2 ev1 ev2 ea1 ea2 hSW hn2 hv2 ha1 ha2 A
  have main : ∀ q : Bool, arcN V x = q → Calls Try.prog 99 #[vTr V S T p, .int .i64 (x : Int), .int .u64 (own : Int)] w (Didf V S T p gb cap (m + 5) (up2 g x 6 SW) (.tuple #[]) w) := by
    intro q hq
    have HQ := Lib.hid hq
    clear hq
    cases q with
    | true =>
      have HV0 : Hid (vx0 = 0) := Lib.hid (by have := HVX.out; unfold vxN at this; rw [HQ.out] at this; simpa using this.symm)
      go_enter Try.func99, Try.ntmps99
      go_wp2_with fail
      have HT : Hid (TBf (w.alloc (.cells #[.int .i64 V, .int .i64 S, .int .i64 T, .iface 84 (pmV p), .int .i64 1, .int .i64 0] 32)) w.heap.size V S T p) := Lib.hid (TBf.new _ _ _ _ _)
      have HA0 := Lib.hid (HA.out.alloc (.cells #[.int .i64 V, .int .i64 S, .int .i64 T, .iface 84 (pmV p), .int .i64 1, .int .i64 0] 32))
      have HO0 := Lib.hid ((Only.refl p gb w).alloc (.cells #[.int .i64 V, .int .i64 S, .int .i64 T, .iface 84 (pmV p), .int .i64 1, .int .i64 0] 32))
      have HS0 : Hid (Blk ((w.alloc (.cells #[.int .i64 V, .int .i64 S, .int .i64 T, .iface 84 (pmV p), .int .i64 1, .int .i64 0] 32)).alloc (.cells #[.int .u64 1, .int .u64 0, .int .u64 (own : Int), .int .u64 (own : Int)] 149)) (w.heap.size + 1) 149 #[.int .u64 1, .int .u64 0, .int .u64 (own : Int), .int .u64 (own : Int)]) := Lib.hid (new_next w _ _ _ _)
      replace HT := Lib.hid (HT.out.alloc (.cells #[.int .u64 1, .int .u64 0, .int .u64 (own : Int), .int .u64 (own : Int)] 149))
      replace HA0 := Lib.hid (HA0.out.alloc (.cells #[.int .u64 1, .int .u64 0, .int .u64 (own : Int), .int .u64 (own : Int)] 149))
      replace HO0 := Lib.hid (HO0.out.alloc (.cells #[.int .u64 1, .int .u64 0, .int .u64 (own : Int), .int .u64 (own : Int)] 149))
      generalize hwb : w.heap.size = b at HT HS0 ⊢
      generalize hW : (w.alloc (.cells #[.int .i64 V, .int .i64 S, .int .i64 T, .iface 84 (pmV p), .int .i64 1, .int .i64 0] 32)).alloc (.cells #[.int .u64 1, .int .u64 0, .int .u64 (own : Int), .int .u64 (own : Int)] 149) = W at HT HA0 HO0 HS0 ⊢
      clear hW
      have htb := tb_rulef b V S T p
      obtain ⟨y0, y1, y2, y3, y4, y5⟩ := HT.out.cells
      have hlt := HT.out.lt
      refine (node_is HR.out HX1.out HX.out _).mono ?_; rintro e w1 ⟨⟨d1, d2, d3, rfl⟩, hb1⟩; rw [HQ.out]
      generalize lvN V x = lvl
      have HT1 := Lib.hid (HT.out.below hb1)
      have HS1 := Lib.hid (HS0.out.below hb1 HS0.out.lt)
      have HA1 := Lib.hid (HA0.out.below hb1)
      have HO1 := Lib.hid (HO0.out.trans (Only.of_below hb1))
      clear hb1 y0 y1 y2 y3 y4 y5 hlt HT HS0 HA0 HO0 htb
      obtain ⟨y0, y1, y2, y3, y4, y5⟩ := HT1.out.cells
      have hlt := HT1.out.lt
      have s0 := HS1.out.cell 0
      have s1 := HS1.out.cell 1
      have s2 := HS1.out.cell 2
      have s3 := HS1.out.cell 3
      have sf := HS1.out.frozen
      have slt := HS1.out.lt
      go_wp2_with fail
      have HT2 : Hid (TBf (w1.alloc (.cells #[.bool true, .int .i64 lvl, .int .i64 d1, .int .i64 d2, .int .i64 d3] 161)) b V S T p) := Lib.hid (HT1.out.alloc _)
      have HS2 : Hid (Blk (w1.alloc (.cells #[.bool true, .int .i64 lvl, .int .i64 d1, .int .i64 d2, .int .i64 d3] 161)) (b + 1) 149 #[.int .u64 1, .int .u64 (vx0 : Int), .int .u64 (own : Int), .int .u64 (own : Int)]) := Lib.hid (by rw [HV0.out]; exact HS1.out.alloc _)
      have HA2 : Hid (TMf (w1.alloc (.cells #[.bool true, .int .i64 lvl, .int .i64 d1, .int .i64 d2, .int .i64 d3] 161)) V S T p gb cap m g) := Lib.hid (HA1.out.alloc _)
      have HO2 : Hid (Only p gb w (w1.alloc (.cells #[.bool true, .int .i64 lvl, .int .i64 d1, .int .i64 d2, .int .i64 d3] 161))) := Lib.hid (HO1.out.alloc _)
      clear HT1 HS1 HA1 HO1 y0 y1 y2 y3 y4 y5 hlt s0 s1 s2 s3 sf slt
      generalize w1.alloc (.cells #[.bool true, .int .i64 lvl, .int .i64 d1, .int .i64 d2, .int .i64 d3] 161) = W2 at HT2 HS2 HA2 HO2 ⊢
      refine (tchildrenf HA2.out HX.out (by omega)).mono ?_; rintro e w3 ⟨rfl, A3, O3⟩; rw [HL.out, HRr.out]
      have HT3 := Lib.hid (HT2.out.only HA2.out O3)
      have HS3 := Lib.hid (HS2.out.treapf HA2.out O3 (by decide) (by decide))
      have HRel : Hid (RkRelf w b V S T p gb cap (m + 2) g (tri 1 n1 n2) (tri vx0 v1 v2) own (tri own a1 a2) (.int .i64 0) w3) := Lib.hid ⟨0, by omega, rfl, HT3.out, HS3.out, A3, HO2.out.trans O3⟩
      clear HT2 HS2 HA2 HO2 HT3 HS3 A3 O3
      go_wp2_with fail
      go_loopw [29] (fun i wr => RkRelf w b V S T p gb cap (m + 2) g (tri 1 n1 n2) (tri vx0 v1 v2) own (tri own a1 a2) i wr) (fun i _ => 2 - (intOf i).toNat)
      case atStart => exact HRel.out
      case round =>
        clear HRel
        obtain ⟨k, hk, rfl, hT, hS, hA, hO⟩ := hrel
        have HT := Lib.hid hT
        have HS := Lib.hid hS
        have HA3 := Lib.hid hA
        have HO3 := Lib.hid hO
        obtain ⟨y0, y1, y2, y3, y4, y5⟩ := hT.cells
        have hlt := hT.lt
        have sf := hS.frozen
        have slt := hS.lt
        clear hT hS hA hO
        have hk3 : k = 0 ∨ k = 1 ∨ k = 2 := by omega
        rcases hk3 with rfl | rfl | rfl
        · have s0 : wr.cell? ⟨b + 1, 0, none⟩ = some (.int .u64 1) := HS.out.cell 0
          have s1 : wr.cell? ⟨b + 1, 1, none⟩ = some (.int .u64 (vx0 : Int)) := HS.out.cell 1
          have s3 : wr.cell? ⟨b + 1, 3, none⟩ = some (.int .u64 (own : Int)) := HS.out.cell 3
          have ix : ∀ W, (Instr.index 97 (.agg #[.int .i64 (l : Int), .int .i64 (r : Int)]) (.int .i64 0)).run Try.prog W = .ok (.int .i64 (l : Int)) W := fun W => rfl
          go_wp2_with fail
          refine (tsumf HA3.out HLN.out (by omega)).mono ?_; rintro e w4 ⟨rfl, A4, O4⟩; rw [HSL.out]
          have HT4 := Lib.hid (HT.out.only HA3.out O4)
          have HS4 := Lib.hid (HS.out.treapf HA3.out O4 (by decide) (by decide))
          have HA4 := Lib.hid A4
          have HO4 := Lib.hid (HO3.out.trans O4)
          clear s0 s1 s3 y0 y1 y2 y3 y4 y5 hlt HT HS HA3 HO3 ix sf slt
          obtain ⟨y0, y1, y2, y3, y4, y5⟩ := HT4.out.cells
          have hlt := HT4.out.lt
          have s0 : w4.cell? ⟨b + 1, 0, none⟩ = some (.int .u64 1) := HS4.out.cell 0
          have s1 : w4.cell? ⟨b + 1, 1, none⟩ = some (.int .u64 (vx0 : Int)) := HS4.out.cell 1
          have s3 : w4.cell? ⟨b + 1, 3, none⟩ = some (.int .u64 (own : Int)) := HS4.out.cell 3
          have sf := HS4.out.frozen
          have slt := HS4.out.lt
          go_wp2_with fail
          go_roundw
          case rel => exact rk_nextf (nf := tri 1 n1 n2) (vf := tri vx0 v1 v2) (af := tri own a1 a2) (k := 0) (by omega) HT4.out HS4.out rfl HA4.out HO4.out hwb _
          case measure => simp [intOf]
        · have s0 : wr.cell? ⟨b + 1, 0, none⟩ = some (.int .u64 (n1 : Int)) := HS.out.cell 0
          have s1 : wr.cell? ⟨b + 1, 1, none⟩ = some (.int .u64 (v1 : Int)) := HS.out.cell 1
          have s3 : wr.cell? ⟨b + 1, 3, none⟩ = some (.int .u64 (a1 : Int)) := HS.out.cell 3
          have ix : ∀ W, (Instr.index 97 (.agg #[.int .i64 (l : Int), .int .i64 (r : Int)]) (.int .i64 1)).run Try.prog W = .ok (.int .i64 (r : Int)) W := fun W => rfl
          go_wp2_with fail
          refine (tsumf HA3.out HRN.out (by omega)).mono ?_; rintro e w4 ⟨rfl, A4, O4⟩; rw [HSR.out]
          have HT4 := Lib.hid (HT.out.only HA3.out O4)
          have HS4 := Lib.hid (HS.out.treapf HA3.out O4 (by decide) (by decide))
          have HA4 := Lib.hid A4
          have HO4 := Lib.hid (HO3.out.trans O4)
          clear s0 s1 s3 y0 y1 y2 y3 y4 y5 hlt HT HS HA3 HO3 ix sf slt
          obtain ⟨y0, y1, y2, y3, y4, y5⟩ := HT4.out.cells
          have hlt := HT4.out.lt
          have s0 : w4.cell? ⟨b + 1, 0, none⟩ = some (.int .u64 (n1 : Int)) := HS4.out.cell 0
          have s1 : w4.cell? ⟨b + 1, 1, none⟩ = some (.int .u64 (v1 : Int)) := HS4.out.cell 1
          have s3 : w4.cell? ⟨b + 1, 3, none⟩ = some (.int .u64 (a1 : Int)) := HS4.out.cell 3
          have sf := HS4.out.frozen
          have slt := HS4.out.lt
          go_wp2_with fail
          go_roundw
          case rel => exact rk_nextf (nf := tri 1 n1 n2) (vf := tri vx0 v1 v2) (af := tri own a1 a2) (k := 1) (by omega) HT4.out HS4.out rfl HA4.out HO4.out hwb _
          case measure => simp [intOf]
        · have s0 : wr.cell? ⟨b + 1, 0, none⟩ = some (.int .u64 (n2 : Int)) := HS.out.cell 0
          have s1 : wr.cell? ⟨b + 1, 1, none⟩ = some (.int .u64 (v2 : Int)) := HS.out.cell 1
          have s2 : wr.cell? ⟨b + 1, 2, none⟩ = some (.int .u64 (own : Int)) := HS.out.cell 2
          have s3 : wr.cell? ⟨b + 1, 3, none⟩ = some (.int .u64 (a2 : Int)) := HS.out.cell 3
          go_wp2_with fail
          refine (tstoref (k := 6) HA3.out kI6 HX.out HX1.out (by omega) (fun e => absurd e (by omega)) (fun e => absurd e (by omega)) HSW.out (by omega)).mono ?_; rintro e w4 ⟨rfl, A4, O4⟩
          have HA4 := Lib.hid A4
          have HO4 := Lib.hid (HO3.out.trans O4)
          clear A4 O4
          go_wp2_with fail
          go_end0
          exact ⟨rfl, HA4.out.more (by omega), HO4.out⟩
    | false =>
      have HV0 : Hid (vx0 = 1) := Lib.hid (by have := HVX.out; unfold vxN at this; rw [HQ.out] at this; simpa using this.symm)
      go_enter Try.func99, Try.ntmps99
      go_wp2_with fail
      have HT : Hid (TBf (w.alloc (.cells #[.int .i64 V, .int .i64 S, .int .i64 T, .iface 84 (pmV p), .int .i64 1, .int .i64 0] 32)) w.heap.size V S T p) := Lib.hid (TBf.new _ _ _ _ _)
      have HA0 := Lib.hid (HA.out.alloc (.cells #[.int .i64 V, .int .i64 S, .int .i64 T, .iface 84 (pmV p), .int .i64 1, .int .i64 0] 32))
      have HO0 := Lib.hid ((Only.refl p gb w).alloc (.cells #[.int .i64 V, .int .i64 S, .int .i64 T, .iface 84 (pmV p), .int .i64 1, .int .i64 0] 32))
      have HS0 : Hid (Blk ((w.alloc (.cells #[.int .i64 V, .int .i64 S, .int .i64 T, .iface 84 (pmV p), .int .i64 1, .int .i64 0] 32)).alloc (.cells #[.int .u64 1, .int .u64 0, .int .u64 (own : Int), .int .u64 (own : Int)] 149)) (w.heap.size + 1) 149 #[.int .u64 1, .int .u64 0, .int .u64 (own : Int), .int .u64 (own : Int)]) := Lib.hid (new_next w _ _ _ _)
      replace HT := Lib.hid (HT.out.alloc (.cells #[.int .u64 1, .int .u64 0, .int .u64 (own : Int), .int .u64 (own : Int)] 149))
      replace HA0 := Lib.hid (HA0.out.alloc (.cells #[.int .u64 1, .int .u64 0, .int .u64 (own : Int), .int .u64 (own : Int)] 149))
      replace HO0 := Lib.hid (HO0.out.alloc (.cells #[.int .u64 1, .int .u64 0, .int .u64 (own : Int), .int .u64 (own : Int)] 149))
      generalize hwb : w.heap.size = b at HT HS0 ⊢
      generalize hW : (w.alloc (.cells #[.int .i64 V, .int .i64 S, .int .i64 T, .iface 84 (pmV p), .int .i64 1, .int .i64 0] 32)).alloc (.cells #[.int .u64 1, .int .u64 0, .int .u64 (own : Int), .int .u64 (own : Int)] 149) = W at HT HA0 HO0 HS0 ⊢
      clear hW
      have htb := tb_rulef b V S T p
      obtain ⟨y0, y1, y2, y3, y4, y5⟩ := HT.out.cells
      have hlt := HT.out.lt
      refine (node_is HR.out HX1.out HX.out _).mono ?_; rintro e w1 ⟨⟨d1, d2, d3, rfl⟩, hb1⟩; rw [HQ.out]
      generalize lvN V x = lvl
      have HT1 := Lib.hid (HT.out.below hb1)
      have HS1 := Lib.hid (HS0.out.below hb1 HS0.out.lt)
      have HA1 := Lib.hid (HA0.out.below hb1)
      have HO1 := Lib.hid (HO0.out.trans (Only.of_below hb1))
      clear hb1 y0 y1 y2 y3 y4 y5 hlt HT HS0 HA0 HO0 htb
      obtain ⟨y0, y1, y2, y3, y4, y5⟩ := HT1.out.cells
      have hlt := HT1.out.lt
      have s0 := HS1.out.cell 0
      have s1 := HS1.out.cell 1
      have s2 := HS1.out.cell 2
      have s3 := HS1.out.cell 3
      have sf := HS1.out.frozen
      have slt := HS1.out.lt
      go_wp2_with fail
      have HT2 : Hid (TBf ((w1.setCell ⟨b + 1, 1, none⟩ (.int .u64 1)).alloc (.cells #[.bool false, .int .i64 lvl, .int .i64 d1, .int .i64 d2, .int .i64 d3] 161)) b V S T p) := Lib.hid (TBf.alloc (Blk.far HT1.out (by simp) _) _)
      have HS2 : Hid (Blk ((w1.setCell ⟨b + 1, 1, none⟩ (.int .u64 1)).alloc (.cells #[.bool false, .int .i64 lvl, .int .i64 d1, .int .i64 d2, .int .i64 d3] 161)) (b + 1) 149 #[.int .u64 1, .int .u64 (vx0 : Int), .int .u64 (own : Int), .int .u64 (own : Int)]) := Lib.hid (by rw [HV0.out]; exact (HS1.out.set_ 1 _).alloc _)
      have HA2 : Hid (TMf ((w1.setCell ⟨b + 1, 1, none⟩ (.int .u64 1)).alloc (.cells #[.bool false, .int .i64 lvl, .int .i64 d1, .int .i64 d2, .int .i64 d3] 161)) V S T p gb cap m g) := Lib.hid ((HA1.out.far HS1.out (by decide) (by decide) _).alloc _)
      have HO2 : Hid (Only p gb w ((w1.setCell ⟨b + 1, 1, none⟩ (.int .u64 1)).alloc (.cells #[.bool false, .int .i64 lvl, .int .i64 d1, .int .i64 d2, .int .i64 d3] 161))) := Lib.hid ((HO1.out.set_new (by omega) _).alloc _)
      clear HT1 HS1 HA1 HO1 y0 y1 y2 y3 y4 y5 hlt s0 s1 s2 s3 sf slt
      generalize (w1.setCell ⟨b + 1, 1, none⟩ (.int .u64 1)).alloc (.cells #[.bool false, .int .i64 lvl, .int .i64 d1, .int .i64 d2, .int .i64 d3] 161) = W2 at HT2 HS2 HA2 HO2 ⊢
      refine (tchildrenf HA2.out HX.out (by omega)).mono ?_; rintro e w3 ⟨rfl, A3, O3⟩; rw [HL.out, HRr.out]
      have HT3 := Lib.hid (HT2.out.only HA2.out O3)
      have HS3 := Lib.hid (HS2.out.treapf HA2.out O3 (by decide) (by decide))
      have HRel : Hid (RkRelf w b V S T p gb cap (m + 2) g (tri 1 n1 n2) (tri vx0 v1 v2) own (tri own a1 a2) (.int .i64 0) w3) := Lib.hid ⟨0, by omega, rfl, HT3.out, HS3.out, A3, HO2.out.trans O3⟩
      clear HT2 HS2 HA2 HO2 HT3 HS3 A3 O3
      go_wp2_with fail
      go_loopw [29] (fun i wr => RkRelf w b V S T p gb cap (m + 2) g (tri 1 n1 n2) (tri vx0 v1 v2) own (tri own a1 a2) i wr) (fun i _ => 2 - (intOf i).toNat)
      case atStart => exact HRel.out
      case round =>
        clear HRel
        obtain ⟨k, hk, rfl, hT, hS, hA, hO⟩ := hrel
        have HT := Lib.hid hT
        have HS := Lib.hid hS
        have HA3 := Lib.hid hA
        have HO3 := Lib.hid hO
        obtain ⟨y0, y1, y2, y3, y4, y5⟩ := hT.cells
        have hlt := hT.lt
        have sf := hS.frozen
        have slt := hS.lt
        clear hT hS hA hO
        have hk3 : k = 0 ∨ k = 1 ∨ k = 2 := by omega
        rcases hk3 with rfl | rfl | rfl
        · have s0 : wr.cell? ⟨b + 1, 0, none⟩ = some (.int .u64 1) := HS.out.cell 0
          have s1 : wr.cell? ⟨b + 1, 1, none⟩ = some (.int .u64 (vx0 : Int)) := HS.out.cell 1
          have s3 : wr.cell? ⟨b + 1, 3, none⟩ = some (.int .u64 (own : Int)) := HS.out.cell 3
          have ix : ∀ W, (Instr.index 97 (.agg #[.int .i64 (l : Int), .int .i64 (r : Int)]) (.int .i64 0)).run Try.prog W = .ok (.int .i64 (l : Int)) W := fun W => rfl
          go_wp2_with fail
          refine (tsumf HA3.out HLN.out (by omega)).mono ?_; rintro e w4 ⟨rfl, A4, O4⟩; rw [HSL.out]
          have HT4 := Lib.hid (HT.out.only HA3.out O4)
          have HS4 := Lib.hid (HS.out.treapf HA3.out O4 (by decide) (by decide))
          have HA4 := Lib.hid A4
          have HO4 := Lib.hid (HO3.out.trans O4)
          clear s0 s1 s3 y0 y1 y2 y3 y4 y5 hlt HT HS HA3 HO3 ix sf slt
          obtain ⟨y0, y1, y2, y3, y4, y5⟩ := HT4.out.cells
          have hlt := HT4.out.lt
          have s0 : w4.cell? ⟨b + 1, 0, none⟩ = some (.int .u64 1) := HS4.out.cell 0
          have s1 : w4.cell? ⟨b + 1, 1, none⟩ = some (.int .u64 (vx0 : Int)) := HS4.out.cell 1
          have s3 : w4.cell? ⟨b + 1, 3, none⟩ = some (.int .u64 (own : Int)) := HS4.out.cell 3
          have sf := HS4.out.frozen
          have slt := HS4.out.lt
          go_wp2_with fail
          go_roundw
          case rel => exact rk_nextf (nf := tri 1 n1 n2) (vf := tri vx0 v1 v2) (af := tri own a1 a2) (k := 0) (by omega) HT4.out HS4.out rfl HA4.out HO4.out hwb _
          case measure => simp [intOf]
        · have s0 : wr.cell? ⟨b + 1, 0, none⟩ = some (.int .u64 (n1 : Int)) := HS.out.cell 0
          have s1 : wr.cell? ⟨b + 1, 1, none⟩ = some (.int .u64 (v1 : Int)) := HS.out.cell 1
          have s3 : wr.cell? ⟨b + 1, 3, none⟩ = some (.int .u64 (a1 : Int)) := HS.out.cell 3
          have ix : ∀ W, (Instr.index 97 (.agg #[.int .i64 (l : Int), .int .i64 (r : Int)]) (.int .i64 1)).run Try.prog W = .ok (.int .i64 (r : Int)) W := fun W => rfl
          go_wp2_with fail
          refine (tsumf HA3.out HRN.out (by omega)).mono ?_; rintro e w4 ⟨rfl, A4, O4⟩; rw [HSR.out]
          have HT4 := Lib.hid (HT.out.only HA3.out O4)
          have HS4 := Lib.hid (HS.out.treapf HA3.out O4 (by decide) (by decide))
          have HA4 := Lib.hid A4
          have HO4 := Lib.hid (HO3.out.trans O4)
          clear s0 s1 s3 y0 y1 y2 y3 y4 y5 hlt HT HS HA3 HO3 ix sf slt
          obtain ⟨y0, y1, y2, y3, y4, y5⟩ := HT4.out.cells
          have hlt := HT4.out.lt
          have s0 : w4.cell? ⟨b + 1, 0, none⟩ = some (.int .u64 (n1 : Int)) := HS4.out.cell 0
          have s1 : w4.cell? ⟨b + 1, 1, none⟩ = some (.int .u64 (v1 : Int)) := HS4.out.cell 1
          have s3 : w4.cell? ⟨b + 1, 3, none⟩ = some (.int .u64 (a1 : Int)) := HS4.out.cell 3
          have sf := HS4.out.frozen
          have slt := HS4.out.lt
          go_wp2_with fail
          go_roundw
          case rel => exact rk_nextf (nf := tri 1 n1 n2) (vf := tri vx0 v1 v2) (af := tri own a1 a2) (k := 1) (by omega) HT4.out HS4.out rfl HA4.out HO4.out hwb _
          case measure => simp [intOf]
        · have s0 : wr.cell? ⟨b + 1, 0, none⟩ = some (.int .u64 (n2 : Int)) := HS.out.cell 0
          have s1 : wr.cell? ⟨b + 1, 1, none⟩ = some (.int .u64 (v2 : Int)) := HS.out.cell 1
          have s2 : wr.cell? ⟨b + 1, 2, none⟩ = some (.int .u64 (own : Int)) := HS.out.cell 2
          have s3 : wr.cell? ⟨b + 1, 3, none⟩ = some (.int .u64 (a2 : Int)) := HS.out.cell 3
          go_wp2_with fail
          refine (tstoref (k := 6) HA3.out kI6 HX.out HX1.out (by omega) (fun e => absurd e (by omega)) (fun e => absurd e (by omega)) HSW.out (by omega)).mono ?_; rintro e w4 ⟨rfl, A4, O4⟩
          have HA4 := Lib.hid A4
          have HO4 := Lib.hid (HO3.out.trans O4)
          clear A4 O4
          go_wp2_with fail
          go_end0
          exact ⟨rfl, HA4.out.more (by omega), HO4.out⟩
  exact main _ rfl

set_option maxHeartbeats 1000000 in
theorem talonef (A : TMf w V S T p gb cap m g) {x : Nat} (hx1 : 1 ≤ x) (hx : x ≤ nN V S) (h9 : isP V x = true → g x 8 ≠ 1) (hm : m ≤ 99999980) :
    Calls Try.prog 44 #[vTr V S T p, .int .i64 (x : Int)] w (Didf V S T p gb cap (m + 9) (aloneG (vxN V) g x) (.tuple #[]) w) := by
  have HX := Lib.hid hx
  have H9 : Hid (isP V x = true → g x 8 ≠ 1) := Lib.hid h9
  have HX1 := Lib.hid hx1
  have HA := Lib.hid A
  obtain ⟨G, hG⟩ : ∃ G, setP (up2 (up2 g x 3 0) x 4 0) x 0 = G := ⟨_, rfl⟩
  have HG := Lib.hid hG
  have HE : Hid (aloneG (vxN V) g x = reckG (vxN V) G x 0) := Lib.hid (by unfold aloneG; rw [hG])
  rw [HE.out]
  clear A hx hx1 hG h9
  go_enter Try.func44, Try.ntmps44
  go_wp2_with fail
  have HT : Hid (TBf (w.alloc (.cells #[.int .i64 V, .int .i64 S, .int .i64 T, .iface 84 (pmV p), .int .i64 1, .int .i64 0] 32)) w.heap.size V S T p) := Lib.hid (TBf.new _ _ _ _ _)
  have HA0 := Lib.hid (HA.out.alloc (.cells #[.int .i64 V, .int .i64 S, .int .i64 T, .iface 84 (pmV p), .int .i64 1, .int .i64 0] 32))
  have HO0 := Lib.hid ((Only.refl p gb w).alloc (.cells #[.int .i64 V, .int .i64 S, .int .i64 T, .iface 84 (pmV p), .int .i64 1, .int .i64 0] 32))
  have HBL : Hid (w.heap.size < (w.alloc (.cells #[.int .i64 V, .int .i64 S, .int .i64 T, .iface 84 (pmV p), .int .i64 1, .int .i64 0] 32)).heap.size) := Lib.hid (by simp)
  generalize hwb : w.heap.size = b at HT HBL ⊢
  generalize hW : w.alloc (.cells #[.int .i64 V, .int .i64 S, .int .i64 T, .iface 84 (pmV p), .int .i64 1, .int .i64 0] 32) = W at HT HA0 HO0 HBL ⊢
  clear hW
  have htb := tb_rulef b V S T p
  obtain ⟨y0, y1, y2, y3, y4, y5⟩ := HT.out.cells
  have hlt := HT.out.lt
  refine (tstoref (k := 3) (v := 0) HA0.out kI3 HX.out HX1.out (by omega) (fun e => absurd e (by omega)) (fun _ => by omega) (by omega) (by omega)).mono ?_; rintro e w1 ⟨rfl, A1, O1⟩
  have HT1 := Lib.hid (HT.out.only HA0.out O1)
  have HA1 := Lib.hid A1
  have HO1 := Lib.hid (HO0.out.trans O1)
  clear A1 O1 HT HA0 HO0 y0 y1 y2 y3 y4 y5 hlt
  obtain ⟨y0, y1, y2, y3, y4, y5⟩ := HT1.out.cells
  have hlt := HT1.out.lt
  go_wp2_with fail
  refine (tstoref (k := 4) (v := 0) HA1.out kI4 HX.out HX1.out (by omega) (fun e => absurd e (by omega)) (fun _ => by omega) (by omega) (by omega)).mono ?_; rintro e w2 ⟨rfl, A2, O2⟩
  have HT2 := Lib.hid (HT1.out.only HA1.out O2)
  have HA2 := Lib.hid A2
  have HO2 := Lib.hid (HO1.out.trans O2)
  clear A2 O2 HT1 HA1 HO1 y0 y1 y2 y3 y4 y5 hlt
  obtain ⟨y0, y1, y2, y3, y4, y5⟩ := HT2.out.cells
  have hlt := HT2.out.lt
  go_wp2_with fail
  refine (tsetParentf (v := 0) HA2.out HX.out (by omega) (fun hP e => H9.out hP (by rw [up2_field _ _ _ _ (by decide), up2_field _ _ _ _ (by decide)] at e; exact e)) (by omega)).mono ?_; rintro e w3 ⟨rfl, A3, O3⟩; rw [HG.out] at A3
  have HT3 := Lib.hid (HT2.out.only HA2.out O3)
  have HA3 := Lib.hid A3
  have HO3 := Lib.hid (HO2.out.trans O3)
  clear A3 O3 HT2 HA2 HO2 y0 y1 y2 y3 y4 y5 hlt
  obtain ⟨y0, y1, y2, y3, y4, y5⟩ := HT3.out.cells
  have hlt := HT3.out.lt
  go_wp2_with fail
  refine (treckonf (own := 0) HA3.out HX.out HX1.out (by omega) (by omega)).mono ?_; rintro e w4 ⟨rfl, A4, O4⟩
  have HA4 := Lib.hid A4
  have HO4 := Lib.hid (HO3.out.trans O4)
  clear A4 O4
  go_wp2_with fail
  go_end0
  exact ⟨rfl, HA4.out.more (by omega), HO4.out⟩
end

end Go.Proofs.Ytaooglagddphnaa

namespace Go.Proofs.Ytaooglagddphnaa
open Go.RowKit

set_option maxRecDepth 100000

/-- From the number t on (a slot's and 1; 0: none) the slots are L. -/
def Chain (nx : Nat → Nat) : Nat → List Nat → Prop
  | t, [] => t = 0
  | t, s :: L => t = s + 1 ∧ Chain nx (nx s) L

theorem chain_range (S : Nat) : ∀ m k, k + m = S → Chain (fun s => if s + 1 < S then s + 2 else 0) (if m = 0 then 0 else k + 1) (List.range' k m)
  | 0, _, _ => rfl
  | m + 1, k, h => by
    refine ⟨by rw [if_neg (Nat.succ_ne_zero m)], ?_⟩
    have := chain_range S m (k + 1) (by omega)
    have e : (if k + 1 < S then k + 2 else 0) = (if m = 0 then 0 else k + 1 + 1) := by
      by_cases hm : m = 0
      · rw [if_pos hm, if_neg (by omega)]
      · rw [if_neg hm, if_pos (by omega)]
    simp only [e]
    exact this

/-- The slot that a link leads to, and whether there is one. -/
def lkF (S : Nat) (v : Int) : Int := if 1 ≤ v ∧ v ≤ S then v - 1 else 0

def lkB (S : Nat) (v : Int) : Bool := decide (1 ≤ v ∧ v ≤ S)

/-- The link of a slot. -/
def lnF (S : Nat) (s : Int) : Int := if 0 ≤ s ∧ s < S then s + 1 else 0

theorem slotF_in {S : Nat} {T a k : Int} (h1 : 0 ≤ a) (h2 : a < S) (h3 : 0 ≤ k) (h4 : k < 7) : slotF S T a k = T + 1 + a * 7 + k := if_pos ⟨h1, h2, h3, h4⟩

theorem slotF_out {S : Nat} {T a k : Int} (h : a < 0 ∨ (S : Int) ≤ a) : slotF S T a k = -1 := if_neg (by omega)

theorem linked_any {V T : Int} {S : Nat} (h : Rt V S T) {v : Int} (h0 : 0 ≤ v) (h1 : v ≤ 1000000) (w : World) :
    Calls Try.prog 70 #[vL V S T, .int .u64 v] w fun e w' => e = .returned (.tuple #[.int .i64 (lkF S v), .bool (lkB S v)]) ∧ Below w.heap.size w w' := by
  have s2 := h.s2
  have t1 := h.t1
  have t2 := h.t2
  by_cases hv : 1 ≤ v ∧ v ≤ S
  · have e1 : lkF S v = v - 1 := if_pos hv
    have e2 : lkB S v = true := decide_eq_true hv
    have e3 := slotF_in (S := S) (T := T) (a := v - 1) (k := 0) (by omega) (by omega) (by omega) (by omega)
    rw [e1, e2]
    have HE := Lib.hid e3
    have HV := Lib.hid hv
    have H := Lib.hid h
    clear e1 e2 e3 hv h
    go_enter Try.func70, Try.ntmps70
    go_wp2_with fail
    refine (nextFree_yes V S T (v - 1) H.out _).mono ?_; rintro e w1 ⟨rfl, hb1⟩; rw [HE.out]
    have h5 : ¬ (T + 1 + (v - 1) * 7 + 0 < 0) := by have := HV.out; omega
    go_wp2_with fail
    go_ret2
    exact ⟨rfl, keepL ((Below.refl _ _).alloc (Nat.le_refl _) _) hb1⟩
  · have e1 : lkF S v = 0 := if_neg hv
    have e2 : lkB S v = false := decide_eq_false hv
    have e3 := slotF_out (S := S) (T := T) (a := v - 1) (k := 0) (by omega)
    rw [e1, e2]
    have HE := Lib.hid e3
    have H := Lib.hid h
    clear e1 e2 e3 hv h
    go_enter Try.func70, Try.ntmps70
    go_wp2_with fail
    refine (nextFree_yes V S T (v - 1) H.out _).mono ?_; rintro e w1 ⟨rfl, hb1⟩; rw [HE.out]
    go_wp2_with fail
    go_ret2
    exact ⟨rfl, keepL ((Below.refl _ _).alloc (Nat.le_refl _) _) hb1⟩

theorem link_any {V T : Int} {S : Nat} (h : Rt V S T) {s : Int} (h0 : -1000000 ≤ s) (h1 : s ≤ 1000000) (w : World) :
    Calls Try.prog 106 #[vL V S T, .int .i64 s] w fun e w' => e = .returned (.int .u64 (lnF S s)) ∧ Below w.heap.size w w' := by
  have s2 := h.s2
  have t1 := h.t1
  have t2 := h.t2
  by_cases hv : 0 ≤ s ∧ s < S
  · have e1 : lnF S s = s + 1 := if_pos hv
    have e3 := slotF_in (S := S) (T := T) (a := s) (k := 0) (by omega) (by omega) (by omega) (by omega)
    rw [e1]
    have h5 : 0 ≤ s := hv.1
    have HE := Lib.hid e3
    have H := Lib.hid h
    clear e1 e3 hv h
    go_enter Try.func106, Try.ntmps106
    go_wp2_with fail
    refine (nextFree_yes V S T s H.out _).mono ?_; rintro e w1 ⟨rfl, hb1⟩; rw [HE.out]
    have h6 : ¬ (T + 1 + s * 7 + 0 < 0) := by omega
    go_wp2_with fail
    go_ret
    exact ⟨rfl, keepL ((Below.refl _ _).alloc (Nat.le_refl _) _) hb1⟩
  · have e1 : lnF S s = 0 := if_neg hv
    have e3 := slotF_out (S := S) (T := T) (a := s) (k := 0) (by omega)
    rw [e1]
    have HE := Lib.hid e3
    have H := Lib.hid h
    clear e1 e3 hv h
    go_enter Try.func106, Try.ntmps106
    go_wp2_with fail
    refine (nextFree_yes V S T s H.out _).mono ?_; rintro e w1 ⟨rfl, hb1⟩; rw [HE.out]
    go_wp2_with fail
    go_ret
    exact ⟨rfl, keepL ((Below.refl _ _).alloc (Nat.le_refl _) _) hb1⟩

theorem lnF_bd (S : Nat) (s : Int) (h : S ≤ 48) : 0 ≤ lnF S s ∧ lnF S s ≤ 18446744073709551615 := by unfold lnF; split <;> omega

/-- What Init has done of all slots below i; the counts of swaps stay. -/
def IniRel (b p g n cap t S m : Nat) (V : Int) (c f : Nat → Int) (w0 : World) (i : Nat) (w : World) : Prop :=
  ∃ c' f' : Nat → Int, Ar w p g n cap c' f' ∧ CB c' (m + 1 + i) ∧ c' 2 = c 2 ∧ c' 3 = c 3 ∧ f' t = lnF S 0 ∧ (∀ s, s < i → f' (t + 1 + s * 7) = lnF S ((s : Int) + 1)) ∧
    (∀ k, k ≠ t → (∀ s, s < i → k ≠ t + 1 + s * 7) → f' k = f k) ∧ LyB w b V S t ∧ Only p g w0 w

set_option maxHeartbeats 2000000 in
theorem init_any {w : World} {p g n cap t S m : Nat} {V T : Int} {c f : Nat → Int} (hR : Rt V S T) (ht : T = (t : Int)) (A : Ar w p g n cap c f) (hn : t < n) (hn2 : ∀ s, s < S → t + 1 + s * 7 < n) (hm : CB c m) (hb : m ≤ 100000) :
    Calls Try.prog 61 #[.iface 84 (pmV p), vL V S T] w fun e w' => e = .returned (.tuple #[]) ∧ ∃ b, IniRel b p g n cap t S m V c f w S w' := by
  subst ht
  have ms := methp_store
  have mn := nilp_store
  have s2 := hR.s2
  have n3 : (n : Int) ≤ 16384 := by have := A.few; omega
  have HR := Lib.hid hR
  have HY := Lib.hid hR.yes
  have HA := Lib.hid A
  have HM := Lib.hid hm
  have HN := Lib.hid hn2
  clear hR A hm hn2
  go_enter Try.func61, Try.ntmps61
  go_wp2_with fail
  have hlb : ∀ W : World, LyB W w.heap.size V S t → W.cell? ⟨w.heap.size, 0, none⟩ = some (.int .i64 V) ∧ W.cell? ⟨w.heap.size, 1, none⟩ = some (.int .i64 S) ∧ W.cell? ⟨w.heap.size, 2, none⟩ = some (.int .i64 (t : Int)) := fun W h => h.cells
  have HL0 : Hid (LyB (w.alloc (.cells #[.int .i64 V, .int .i64 S, .int .i64 (t : Int)] 23)) w.heap.size V S t) := Lib.hid (Blk.new _ _ _)
  have HA0 := Lib.hid (HA.out.alloc (.cells #[.int .i64 V, .int .i64 S, .int .i64 (t : Int)] 23))
  have HO0 := Lib.hid ((Only.refl p g w).alloc (.cells #[.int .i64 V, .int .i64 S, .int .i64 (t : Int)] 23))
  refine (right_any _ _ _ _).mono ?_; rintro e w1 ⟨rfl, hb1⟩; rw [HY.out]
  have HL1 := Lib.hid (HL0.out.below hb1)
  have HA1 := Lib.hid (HA0.out.below hb1 (Nat.le_refl _))
  have HO1 := Lib.hid (HO0.out.trans (Only.of_below hb1))
  clear hb1 HA HL0 HA0 HO0
  go_wp2_with fail
  have hbp : w.heap.size ≠ p := HL1.out.ne_p HA1.out
  have hbg : w.heap.size ≠ g := HL1.out.ne_g HA1.out
  generalize hwb : w.heap.size = b at HL1 hbp hbg hlb ⊢
  obtain ⟨y0, y1, y2⟩ := HL1.out.cells
  have hlt := HL1.out.lt
  have v0 := (lnF_bd S 0 (by omega)).1
  have v1 := (lnF_bd S 0 (by omega)).2
  have HLd := Lib.hid HL1.out.drew
  have HAd := Lib.hid HA1.out.drew
  have HOd := Lib.hid HO1.out.drew
  go_region_held3 (fun W => LyB W b V S t) (first | (with_reducible assumption) | (with_reducible exact HLd.out) | (with_reducible exact LyB.below (by assumption) hb1) | (with_reducible exact LyB.only (by assumption) (Hid.out (by assumption : Hid (Ar _ p g n cap c f))) O2))
    (first
      | (go_at_call 71; ((with_reducible refine (free_yes V S t HR.out _).mono ?_); rintro e w' ⟨rfl, hb1⟩; have HA' := Lib.hid (Ar.below (Hid.out (by assumption : Hid (Ar _ p g n cap c f))) hb1 (Nat.le_refl _)); have HO' := Lib.hid (Only.trans (Hid.out (by assumption : Hid (Only p g w _))) (Only.of_below hb1))))
      | (go_at_call 106; ((with_reducible refine (link_any HR.out (by omega) (by omega) _).mono ?_); rintro e w' ⟨rfl, hb1⟩; have HA' := Lib.hid (Ar.below (Hid.out (by assumption : Hid (Ar _ p g n cap c f))) hb1 (Nat.le_refl _)); have HO' := Lib.hid (Only.trans (Hid.out (by assumption : Hid (Only p g w _))) (Only.of_below hb1))))
      | ((with_reducible refine (pm_store (Hid.out (by assumption : Hid (Ar _ p g n cap c f))) hn v0 v1 HM.out (by omega)).mono ?_); rintro e w2 ⟨rfl, A2, O2⟩; have HL2 := Lib.hid (LyB.only (by assumption) (Hid.out (by assumption : Hid (Ar _ p g n cap c f))) O2); have HO2 := Lib.hid (Only.trans (Hid.out (by assumption : Hid (Only p g w _))) O2)))
  all_goals
    have HA2 := Lib.hid A2
    clear A2 O2
    obtain ⟨y0, y1, y2⟩ := HL2.out.cells
    have hlt2 := HL2.out.lt
    have hRel : Hid (IniRel b p g n cap t S m V c f w 0 w2) := Lib.hid ⟨_, _, HA2.out, (HM.out.upd 1).more (by omega), upd_other _ _ (by omega), upd_other _ _ (by omega), upd_same _ _ _, fun s hs => absurd hs (Nat.not_lt_zero _), fun k hk _ => upd_other _ _ hk, HL2.out, HO2.out⟩
    clear HA1 HO1 HL1 HAd HOd HLd HA' HO' HL2 HO2 HA2
    go_wp2_with fail
    go_loopw [19] (fun i wr => ∃ k : Nat, k ≤ S ∧ i = .int .i64 (k : Int) ∧ IniRel b p g n cap t S m V c f w k wr) (fun i _ => S - (intOf i).toNat)
    case atStart => exact ⟨0, Nat.zero_le _, rfl, hRel.out⟩
    case round =>
      clear hRel y0 y1 y2 hlt2
      obtain ⟨k, hk, rfl, c1, f1, A, m1, c2, c3, fh, fs, fo, L, O⟩ := hrel
      by_cases hlt : k < S
      · have HA1 := Lib.hid A
        have HM1 := Lib.hid m1
        have HL1 := Lib.hid L
        have HO1 := Lib.hid O
        have HF := Lib.hid (And.intro c2 (And.intro c3 (And.intro fh (And.intro fs fo))))
        clear A m1 L O c2 c3 fh fs fo
        obtain ⟨y0, y1, y2⟩ := HL1.out.cells
        have hltb := HL1.out.lt
        have v0 := (lnF_bd S ((k : Int) + 1) (by omega)).1
        have v1 := (lnF_bd S ((k : Int) + 1) (by omega)).2
        have s3 : -1000000 ≤ (k : Int) + 1 := by omega
        have s4 : (k : Int) + 1 ≤ 1000000 := by omega
        have wrk : IntKind.i64.wrap ((k : Int) + 1) = (k : Int) + 1 := IntWalk.i64_in _ (by omega)
        obtain ⟨j, hj⟩ : ∃ j : Nat, j = t + 1 + k * 7 := ⟨_, rfl⟩
        have hjn : j < n := by rw [hj]; exact HN.out k hlt
        have e2 : slotF S (t : Int) (k : Int) 0 = (j : Int) := by rw [slotF_in (by omega) (by omega) (by omega) (by omega)]; omega
        have HE2 := Lib.hid e2
        have HJ := Lib.hid hj
        clear e2 hj
        go_wp2_with fail
        have HLd := Lib.hid HL1.out.drew
        have HAd := Lib.hid HA1.out.drew
        have HOd := Lib.hid HO1.out.drew
        go_region_held3 (fun W => LyB W b V S t) (first | (with_reducible assumption) | (with_reducible exact HLd.out) | (with_reducible exact LyB.below (by assumption) hb1) | (with_reducible exact LyB.only (by assumption) (Hid.out (by assumption : Hid (Ar _ p g n cap c1 f1))) O2))
          (first
            | (go_at_call 72; ((with_reducible refine (nextFree_yes V S t (k : Int) HR.out _).mono ?_); rintro e w' ⟨rfl, hb1⟩; rw [HE2.out]; have HA' := Lib.hid (Ar.below (Hid.out (by assumption : Hid (Ar _ p g n cap c1 f1))) hb1 (Nat.le_refl _)); have HO' := Lib.hid (Only.trans (Hid.out (by assumption : Hid (Only p g w _))) (Only.of_below hb1))))
            | (go_at_call 106; ((with_reducible refine (link_any HR.out s3 s4 _).mono ?_); rintro e w' ⟨rfl, hb1⟩; have HA' := Lib.hid (Ar.below (Hid.out (by assumption : Hid (Ar _ p g n cap c1 f1))) hb1 (Nat.le_refl _)); have HO' := Lib.hid (Only.trans (Hid.out (by assumption : Hid (Only p g w _))) (Only.of_below hb1))))
            | ((with_reducible refine (pm_store (Hid.out (by assumption : Hid (Ar _ p g n cap c1 f1))) hjn v0 v1 HM1.out (by omega)).mono ?_); rintro e w2 ⟨rfl, A2, O2⟩; have HL2 := Lib.hid (LyB.only (by assumption) (Hid.out (by assumption : Hid (Ar _ p g n cap c1 f1))) O2); have HO2 := Lib.hid (Only.trans (Hid.out (by assumption : Hid (Only p g w _))) O2)))
        all_goals
          have hRel : Hid (IniRel b p g n cap t S m V c f w (k + 1) w2) := by
            obtain ⟨q2, q3, qh, qs, qo⟩ := HF.out
            have hj := HJ.out
            refine Lib.hid ⟨_, _, A2, (HM1.out.upd 1).more (by omega), (upd_other _ _ (by omega)).trans q2, (upd_other _ _ (by omega)).trans q3, (upd_other _ _ (by omega)).trans qh, fun s hs => ?_, fun i hi hi2 => ?_, HL2.out, HO2.out⟩
            · by_cases e : s = k
              · subst e; rw [← hj, upd_same]
              · rw [upd_other _ _ (by omega)]; exact qs s (by omega)
            · rw [upd_other _ _ (by have := hi2 k (by omega); omega)]
              exact qo i hi fun s hs => hi2 s (by omega)
          clear A2 O2 HL2 HO2 HA' HO' HAd HOd HLd HA1 HO1 HL1 HF HM1 y0 y1 y2
          go_wp2_with fail
          go_round
          case rel => exact ⟨k + 1, by omega, by go_num, hRel.out⟩
          case measure => simp [intOf]; omega
      · have e : k = S := by omega
        subst e
        obtain ⟨y0, y1, y2⟩ := L.cells
        have hltb := L.lt
        have HF := Lib.hid (show IniRel b p g n cap t k m V c f w k wr from ⟨c1, f1, A, m1, c2, c3, fh, fs, fo, L, O⟩)
        clear A m1 L O c2 c3 fh fs fo
        go_wp2_with fail
        go_end0
        exact ⟨rfl, b, HF.out⟩

/-- What List has told so far, of the free slots L. -/
def LsRel (b p g n cap t S m : Nat) (V : Int) (c f : Nat → Int) (nx : Nat → Nat) (L : List Nat) (w0 : World) (v s ok : Value) (w : World) : Prop :=
  ∃ (pre suf : List Nat) (k : Nat) (c' : Nat → Int), L = pre ++ suf ∧ Chain nx k suf ∧ k ≤ S ∧ s = .int .i64 (lkF S k) ∧ ok = .bool (lkB S k) ∧ LI w v pre ∧ (∀ i, bk v = some i → w0.heap.size ≤ i) ∧
    Ar w p g n cap c' f ∧ CB c' (m + 1 + pre.length) ∧ c' 2 = c 2 ∧ c' 3 = c 3 ∧ LyB w b V S t ∧ Only p g w0 w

/-- What List tells. -/
def Listed (p g n cap m : Nat) (c f : Nat → Int) (L : List Nat) (w : World) (e : Ending) (w' : World) : Prop :=
  ∃ v c', e = .returned v ∧ LI w' v L ∧ (∀ i, bk v = some i → w.heap.size ≤ i) ∧ Ar w' p g n cap c' f ∧ CB c' (m + 1 + L.length) ∧ c' 2 = c 2 ∧ c' 3 = c 3 ∧ Only p g w w'

theorem Chain.link_le {nx : Nat → Nat} {S : Nat} : ∀ {L : List Nat} {k : Nat}, Chain nx k L → (∀ s ∈ L, s < S) → k ≤ S
  | [], k, h, _ => by have : k = 0 := h; omega
  | s :: L, k, h, hs => by have := h.1; have := hs s (List.mem_cons_self ..); omega

set_option maxHeartbeats 4000000 in
theorem slist_any {w : World} {p g n cap t S m k0 : Nat} {V T : Int} {c f : Nat → Int} {nx : Nat → Nat} {L : List Nat} (hR : Rt V S T) (ht : T = (t : Int)) (A : Ar w p g n cap c f) (hn : t < n) (hn2 : ∀ s, s < S → t + 1 + s * 7 < n) (hm : CB c m) (hb : m ≤ 100000)
    (hk : f t % 65536 = k0) (hf : ∀ s, s < S → f (t + 1 + s * 7) = nx s) (hch : Chain nx k0 L) (hL : ∀ s ∈ L, s < S) (hlen : L.length ≤ S) :
    Calls Try.prog 31 #[.iface 84 (pmV p), vL V S T] w (Listed p g n cap m c f L w) := by
  subst ht
  have ms := methp_load
  have mn := nilp_load
  have s2 := hR.s2
  have n3 : (n : Int) ≤ 16384 := by have := A.few; omega
  have e1 : bits .and .u64 (f t) 65535 = (k0 : Int) := (and_65535 _ (A.fit t hn).1 (by have := (A.fit t hn).2; omega)).trans hk
  have k1 : (k0 : Int) ≤ 1000000 := by omega
  have k2 : 0 ≤ (k0 : Int) := by omega
  have hk0 := hch.link_le hL
  have HR := Lib.hid hR
  have HY := Lib.hid hR.yes
  have HA := Lib.hid A
  have HM := Lib.hid hm
  have HN := Lib.hid hn2
  have HF := Lib.hid hf
  have HC := Lib.hid hch
  have HL := Lib.hid hL
  clear hR A hm hn2 hk hf hch hL
  go_enter Try.func31, Try.ntmps31
  go_wp2_with fail
  have hlb : ∀ W : World, LyB W w.heap.size V S t → W.cell? ⟨w.heap.size, 0, none⟩ = some (.int .i64 V) ∧ W.cell? ⟨w.heap.size, 1, none⟩ = some (.int .i64 S) ∧ W.cell? ⟨w.heap.size, 2, none⟩ = some (.int .i64 (t : Int)) := fun W h => h.cells
  have HL0 : Hid (LyB (w.alloc (.cells #[.int .i64 V, .int .i64 S, .int .i64 (t : Int)] 23)) w.heap.size V S t) := Lib.hid (Blk.new _ _ _)
  have HA0 := Lib.hid (HA.out.alloc (.cells #[.int .i64 V, .int .i64 S, .int .i64 (t : Int)] 23))
  have HO0 := Lib.hid ((Only.refl p g w).alloc (.cells #[.int .i64 V, .int .i64 S, .int .i64 (t : Int)] 23))
  refine (right_any _ _ _ _).mono ?_; rintro e w1 ⟨rfl, hb1⟩; rw [HY.out]
  have HL1 := Lib.hid (HL0.out.below hb1)
  have HA1 := Lib.hid (HA0.out.below hb1 (Nat.le_refl _))
  have HO1 := Lib.hid (HO0.out.trans (Only.of_below hb1))
  clear hb1 HA HL0 HA0 HO0
  go_wp2_with fail
  have hbp : w.heap.size ≠ p := HL1.out.ne_p HA1.out
  have hbg : w.heap.size ≠ g := HL1.out.ne_g HA1.out
  generalize hwb : w.heap.size = b at HL1 hbp hbg hlb ⊢
  obtain ⟨y0, y1, y2⟩ := HL1.out.cells
  have hlt := HL1.out.lt
  have HLd := Lib.hid HL1.out.drew
  have HAd := Lib.hid HA1.out.drew
  have HOd := Lib.hid HO1.out.drew
  go_region_held3 (fun W => LyB W b V S t) (first | (with_reducible assumption) | (with_reducible exact HLd.out) | (with_reducible exact LyB.below (by assumption) hb1) | (with_reducible exact LyB.only (by assumption) (Hid.out (by assumption : Hid (Ar _ p g n cap c f))) O2))
    (first
      | (go_at_call 71; ((with_reducible refine (free_yes V S t HR.out _).mono ?_); rintro e w' ⟨rfl, hb1⟩; have HA' := Lib.hid (Ar.below (Hid.out (by assumption : Hid (Ar _ p g n cap c f))) hb1 (Nat.le_refl _)); have HO' := Lib.hid (Only.trans (Hid.out (by assumption : Hid (Only p g w _))) (Only.of_below hb1))))
      | (go_at_call 70; ((with_reducible refine (linked_any HR.out k2 k1 _).mono ?_); rintro e w4 ⟨rfl, hb1⟩; have HA4 := Lib.hid (Ar.below (Hid.out (by assumption : Hid (Ar _ p g n cap (upd c 0 (c 0 + 1)) f))) hb1 (Nat.le_refl _)); have HO4 := Lib.hid (Only.trans (Hid.out (by assumption : Hid (Only p g w _))) (Only.of_below hb1)); have HL4 := Lib.hid (LyB.below (by assumption) hb1)))
      | ((with_reducible refine (pm_load (Hid.out (by assumption : Hid (Ar _ p g n cap c f))) hn HM.out (by omega)).mono ?_); rintro e w2 ⟨rfl, A2, O2⟩; have HA2 := Lib.hid A2; have HO2 := Lib.hid (Only.trans (Hid.out (by assumption : Hid (Only p g w _))) O2)))
  all_goals
    obtain ⟨y0, y1, y2⟩ := HL4.out.cells
    have hlt4 := HL4.out.lt
    have hRel : Hid (LsRel b p g n cap t S m V c f nx L w (.slice none 0 0) (.int .i64 (lkF S k0)) (.bool (lkB S k0)) w4) :=
      Lib.hid ⟨[], L, k0, _, rfl, HC.out, hk0, rfl, rfl, LI.nil _, fun i hi => by simp [bk] at hi, HA4.out, (HM.out.upd 0).more (by simp), upd_other _ _ (by omega), upd_other _ _ (by omega), HL4.out, HO4.out⟩
    clear HA1 HO1 HL1 HAd HOd HLd HA' HO' HA2 HO2 HA4 HO4 HL4
    generalize lkF S (k0 : Int) = q1 at hRel ⊢
    generalize lkB S (k0 : Int) = q2 at hRel ⊢
    clear e1 k1 k2 hk0 HC HM
    go_wp2_with fail
    go_loopw [5, 6, 7] (fun v s ok wr => LsRel b p g n cap t S m V c f nx L w v s ok wr) (fun v _ _ _ => S - lenV v)
    case atStart => exact hRel.out
    case round =>
      clear hRel y0 y1 y2 hlt4
      obtain ⟨pre, suf, k, c1, hpre, hch, hk, hs, hok, hli, hbk, A, m1, q2', q3', LYs, O⟩ := hrel
      have HC1 := Lib.hid (And.intro q2' q3')
      have HA1 := Lib.hid A
      have HM1 := Lib.hid m1
      have HLY := Lib.hid LYs
      have HO1 := Lib.hid O
      have HLI := Lib.hid hli
      have HBK := Lib.hid hbk
      clear A m1 LYs O hli hbk q2' q3'
      obtain ⟨y0, y1, y2⟩ := HLY.out.cells
      have hltb := HLY.out.lt
      cases suf with
      | nil =>
        have e0 : k = 0 := hch
        subst e0
        have e2 : lkB S ((0 : Nat) : Int) = false := decide_eq_false (by omega)
        rw [e2] at hok
        subst hs hok
        have e3 : pre = L := by rw [hpre, List.append_nil]
        subst e3
        clear hch hpre e2 hk
        go_wp2_with fail
        go_ret
        exact ⟨_, c1, rfl, HLI.out, HBK.out, HA1.out, HM1.out, HC1.out.1, HC1.out.2, HO1.out⟩
      | cons x suf =>
        have hx : k = x + 1 := hch.1
        have hch' := hch.2
        subst hx
        have hxS : x < S := by omega
        have e1 : lkF S ((x + 1 : Nat) : Int) = (x : Int) := by unfold lkF; rw [if_pos ⟨by omega, by omega⟩]; omega
        have e2 : lkB S ((x + 1 : Nat) : Int) = true := decide_eq_true ⟨by omega, by omega⟩
        rw [e1] at hs
        rw [e2] at hok
        subst hs hok
        obtain ⟨ao, vc, rfl, hvl, hvm⟩ := HLI.out.shape
        have hll : pre.length < S := by rw [hpre] at hlen; simp at hlen; omega
        have hll2 : (pre.length : Int) < S := by omega
        have hp2 : L = (pre ++ [x]) ++ suf := by rw [hpre]; simp
        have hp5 : pre.length ≤ 100000 := by omega
        have HP := Lib.hid hp2
        have HCH := Lib.hid hch'
        clear hpre hch hch' e1 e2 hp2 hvl hvm
        go_wp2_with (at_builtin; refine wpList_append_li _ rfl _ _ rfl rfl (HLI.out.alloc _) ⟨wr.heap.size, 0, none⟩ 1 x rfl (cell_new1 _ _ _) hp5 ?_)
        intro v' w2 hli2 hg2 hbk2
        have HA2 : Hid (Ar w2 p g n cap c1 f) := by
          have A := HA1.out.alloc (.cells #[.int .i64 (x : Int)] 3)
          have L := HLI.out.alloc (.cells #[.int .i64 (x : Int)] 3)
          obtain ⟨zs, hz, _⟩ := A.cells
          exact Lib.hid (A.grown hg2 (L.ne_blk A.own (by decide)) (L.ne_blk hz (by decide)))
        have HLY2 : Hid (LyB w2 b V S t) := Lib.hid (Blk.grown (Blk.alloc HLY.out _) hg2 ((HLI.out.alloc (.cells #[.int .i64 (x : Int)] 3)).ne_blk (Blk.alloc HLY.out (.cells #[.int .i64 (x : Int)] 3)) (by decide)))
        have HO2 : Hid (Only p g w w2) := Lib.hid ((HO1.out.alloc _).grown hg2 HBK.out)
        have HB2 : Hid (∀ i, bk v' = some i → w.heap.size ≤ i) := by
          refine Lib.hid fun i hi => ?_
          rcases hbk2 with e | ⟨k, e, hk⟩
          · exact HBK.out i (e ▸ hi)
          · rw [hi] at e; cases e
            have := HO1.out.size
            omega
        have HLI2 := Lib.hid hli2
        clear hli2 hg2 hbk2 HA1 HLI HBK HLY HO1 y0 y1 y2 hltb
        obtain ⟨y0, y1, y2⟩ := HLY2.out.cells
        have hltb := HLY2.out.lt
        obtain ⟨j, hj⟩ : ∃ j : Nat, j = t + 1 + x * 7 := ⟨_, rfl⟩
        have hjn : j < n := by rw [hj]; exact HN.out x hxS
        have e2 : slotF S (t : Int) (x : Int) 0 = (j : Int) := by rw [slotF_in (by omega) (by omega) (by omega) (by omega)]; omega
        have e3 : f j = (nx x : Int) := by rw [hj]; exact HF.out x hxS
        have e4 : nx x ≤ S := HCH.out.link_le (fun s hs => HL.out s (by rw [HP.out]; simp [hs]))
        have k1 : ((nx x : Nat) : Int) ≤ 1000000 := by omega
        have k2 : 0 ≤ ((nx x : Nat) : Int) := by omega
        have HE2 := Lib.hid e2
        have HE3 := Lib.hid e3
        clear e2 e3 hj
        go_wp2_with fail
        have HLd := Lib.hid HLY2.out.drew
        have HAd := Lib.hid HA2.out.drew
        have HOd := Lib.hid HO2.out.drew
        have HId := Lib.hid HLI2.out.drew
        go_region_held3 (fun W => LyB W b V S t) (first | (with_reducible assumption) | (with_reducible exact HLd.out) | (with_reducible exact LyB.below (by assumption) hb1) | (with_reducible exact LyB.only (by assumption) (Hid.out (by assumption : Hid (Ar _ p g n cap c1 f))) O2))
          (first
            | (go_at_call 72; ((with_reducible refine (nextFree_yes V S t (x : Int) HR.out _).mono ?_); rintro e w' ⟨rfl, hb1⟩; rw [HE2.out]; have HA' := Lib.hid (Ar.below (Hid.out (by assumption : Hid (Ar _ p g n cap c1 f))) hb1 (Nat.le_refl _)); have HO' := Lib.hid (Only.trans (Hid.out (by assumption : Hid (Only p g w _))) (Only.of_below hb1)); have HI' := Lib.hid (LI.below (Hid.out (by assumption : Hid (LI _ v' (pre ++ [x])))) hb1)))
            | (go_at_call 70; ((with_reducible refine (linked_any HR.out k2 k1 _).mono ?_); rintro e w4 ⟨rfl, hb1⟩; have HA4 := Lib.hid (Ar.below (Hid.out (by assumption : Hid (Ar _ p g n cap (upd c1 0 (c1 0 + 1)) f))) hb1 (Nat.le_refl _)); have HO4 := Lib.hid (Only.trans (Hid.out (by assumption : Hid (Only p g w _))) (Only.of_below hb1)); have HL4 := Lib.hid (LyB.below (by assumption) hb1); have HI4 := Lib.hid (LI.below (Hid.out (by assumption : Hid (LI _ v' (pre ++ [x])))) hb1)))
            | ((with_reducible refine (pm_load (Hid.out (by assumption : Hid (Ar _ p g n cap c1 f))) hjn HM1.out (by omega)).mono ?_); rintro e w2 ⟨rfl, A2, O2⟩; rw [HE3.out]; have HI' := Lib.hid (LI.onlyA (Hid.out (by assumption : Hid (LI _ v' (pre ++ [x])))) (Hid.out (by assumption : Hid (Ar _ p g n cap c1 f))) O2); have HA2 := Lib.hid A2; have HO2 := Lib.hid (Only.trans (Hid.out (by assumption : Hid (Only p g w _))) O2)))
        all_goals
          have hlen2 : lenV v' = pre.length + 1 := by
            obtain ⟨a', cap', e, _⟩ := HI4.out.shape
            rw [e]; simp [lenV]
          have hRel : Hid (LsRel b p g n cap t S m V c f nx L w v' (.int .i64 (lkF S (nx x))) (.bool (lkB S (nx x))) w4) :=
            Lib.hid ⟨pre ++ [x], suf, nx x, _, HP.out, HCH.out, e4, rfl, rfl, HI4.out, HB2.out, HA4.out, (HM1.out.upd 0).more (by simp; omega), (upd_other _ _ (by omega)).trans HC1.out.1, (upd_other _ _ (by omega)).trans HC1.out.2, HL4.out, HO4.out⟩
          clear A2 O2 HL4 HO4 HI4 HA4 HO2 HA' HO' HI' HAd HOd HLd HId HA2 HLI2 HLY2 HB2 HM1 HC1 y0 y1 y2 HP HCH hb1
          generalize lkF S ((nx x : Nat) : Int) = q3 at hRel ⊢
          generalize lkB S ((nx x : Nat) : Int) = q4 at hRel ⊢
          clear k1 k2 e4 HE2 HE3
          go_wp2_with fail
          go_round
          case rel => exact hRel.out
          case measure => rw [hlen2]; simp only [lenV]; omega

end Go.Proofs.Ytaooglagddphnaa

namespace Go.Proofs.Ytaooglagddphnaa
open Go.RowKit

set_option maxRecDepth 100000

/-- What a node's field has at first; what a cell has; what the cells have when the nodes below x are made. -/
def ndF (V : Int) (dl : Nat) (d : Nat → Nat) (x k : Nat) : Int :=
  if k = 0 then (if (x : Int) ≤ V then 0 else 65535) else if k = 5 then (if dl = 0 then 0 else (d (x % dl) : Int)) else if k = 6 then (if (x : Int) ≤ vn V then 65537 else 1) else 0
def bcF (V S T : Int) (dl : Nat) (d : Nat → Nat) (i : Nat) : Int :=
  if (i : Int) < T then 0 else if (i : Int) = T then lnF S.toNat 0 else if (i : Int) < o3 S T then (if ((i : Int) - T - 1) % 7 = 0 then lnF S.toNat (((i : Int) - T - 1) / 7 + 1) else 0)
  else if (i : Int) < o5 V S T then 0 else ndF V dl d ((((i : Int) - o5 V S T) / 7).toNat + 1) ((((i : Int) - o5 V S T) % 7).toNat)
def bcX (V S T : Int) (dl : Nat) (d : Nat → Nat) (x : Nat) (i : Nat) : Int := if (i : Int) < o5 V S T + ((x : Int) - 1) * 7 then bcF V S T dl d i else 0
section
variable {V S T : Int} {dl x y k i : Nat} {d : Nat → Nat} {f f' : Nat → Int} {g : Mg9}
theorem o_order (hR : Rt V S T) : 0 ≤ T ∧ T + 1 ≤ o3 S T ∧ o3 S T ≤ o5 V S T := by
  have z := sizes hR
  have a1 := z.vn1
  have a2 := hR.s1
  have a3 := hR.t1
  have a4 := z.pr1
  unfold o5 o3; omega
theorem bc_node (hR : Rt V S T) (h1 : 1 ≤ x) (hk : k < 7) : bcF V S T dl d (cN V S T x k) = ndF V dl d x k := by
  have e := cN_int (k := k) hR h1
  obtain ⟨a, b, c⟩ := o_order hR
  unfold bcF
  rw [if_neg (by omega), if_neg (by omega), if_neg (by omega), if_neg (by omega)]
  have e1 : (((cN V S T x k : Nat) : Int) - o5 V S T) / 7 = (x : Int) - 1 := by omega
  have e2 : (((cN V S T x k : Nat) : Int) - o5 V S T) % 7 = (k : Int) := by omega
  rw [e1, e2, show ((x : Int) - 1).toNat + 1 = x by omega, show ((k : Int)).toNat = k by omega]
theorem bcX_node (hR : Rt V S T) (h1 : 1 ≤ y) (hk : k < 7) : bcX V S T dl d x (cN V S T y k) = if y < x then ndF V dl d y k else 0 := by
  have e := cN_int (k := k) hR h1
  unfold bcX
  by_cases h : y < x
  · rw [if_pos h, if_pos (by omega), bc_node hR h1 hk]
  · rw [if_neg h, if_neg (by omega)]
theorem bcX_low (h1 : 1 ≤ x) (h : (i : Int) < o5 V S T) : bcX V S T dl d x i = bcF V S T dl d i := if_pos (by omega)
/-- A cell is ahead of the nodes' cells, or one of them. -/
theorem cell_which (hR : Rt V S T) (i : Nat) : (i : Int) < o5 V S T ∨ ∃ y k, 1 ≤ y ∧ k < 7 ∧ i = cN V S T y k := by
  by_cases h : (i : Int) < o5 V S T
  · exact .inl h
  · refine .inr ⟨(((i : Int) - o5 V S T) / 7).toNat + 1, (((i : Int) - o5 V S T) % 7).toNat, by omega, by omega, ?_⟩
    have e := cN_int (x := (((i : Int) - o5 V S T) / 7).toNat + 1) (k := (((i : Int) - o5 V S T) % 7).toNat) hR (by omega)
    omega
theorem lnF_le (hR : Rt V S T) (s : Int) : 0 ≤ lnF S.toNat s ∧ lnF S.toNat s ≤ 18446744073709551615 := lnF_bd _ _ (by have := hR.s2; omega)
theorem ndF_bd (hd : ∀ j, j < dl → d j ≤ 18446744073709551615) : 0 ≤ ndF V dl d x k ∧ ndF V dl d x k ≤ 18446744073709551615 := by
  unfold ndF
  split
  · split <;> omega
  · split
    · split
      · omega
      · have := hd (x % dl) (Nat.mod_lt _ (by omega)); omega
    · split
      · split <;> omega
      · omega
theorem bcF_bd (hR : Rt V S T) (hd : ∀ j, j < dl → d j ≤ 18446744073709551615) (i : Nat) : 0 ≤ bcF V S T dl d i ∧ bcF V S T dl d i ≤ 18446744073709551615 := by
  unfold bcF
  split
  · omega
  · split
    · exact lnF_le hR _
    · split
      · split
        · exact lnF_le hR _
        · omega
      · split
        · omega
        · exact ndF_bd hd
theorem bcX_bd (hR : Rt V S T) (hd : ∀ j, j < dl → d j ≤ 18446744073709551615) (i : Nat) : 0 ≤ bcX V S T dl d x i ∧ bcX V S T dl d x i ≤ 18446744073709551615 := by
  unfold bcX
  split
  · exact bcF_bd hR hd i
  · omega
/-- What Init leaves is the cells of no nodes. -/
theorem bcX_first (hR : Rt V S T) {t Sn : Nat} (ht : T = (t : Int)) (hS : S = (Sn : Int)) (h0 : f t = lnF Sn 0) (h1 : ∀ s, s < Sn → f (t + 1 + s * 7) = lnF Sn ((s : Int) + 1)) (h2 : ∀ k, k ≠ t → (∀ s, s < Sn → k ≠ t + 1 + s * 7) → f k = 0) : f = bcX V S T dl d 1 := by
  have eS : S.toNat = Sn := by omega
  obtain ⟨a, b, c⟩ := o_order hR
  have e3 : o3 S T = T + 1 + S * 7 := rfl
  funext i
  unfold bcX
  by_cases h : (i : Int) < o5 V S T
  · rw [if_pos (by omega)]
    unfold bcF
    rw [eS]
    by_cases g1 : (i : Int) < T
    · rw [if_pos g1]; exact h2 i (by omega) fun s _ => by omega
    · rw [if_neg g1]
      by_cases g2 : (i : Int) = T
      · rw [if_pos g2, show i = t by omega]; exact h0
      · rw [if_neg g2]
        by_cases g3 : (i : Int) < o3 S T
        · rw [if_pos g3]
          by_cases g4 : ((i : Int) - T - 1) % 7 = 0
          · rw [if_pos g4]
            have := h1 ((((i : Int) - T - 1) / 7).toNat) (by omega)
            rw [show t + 1 + (((i : Int) - T - 1) / 7).toNat * 7 = i by omega] at this
            rw [this]
            congr 1
            omega
          · rw [if_neg g4]; exact h2 i (by omega) fun s _ => by omega
        · rw [if_neg g3, if_pos h]; exact h2 i (by omega) fun s _ => by omega
  · rw [if_neg (by omega)]
    exact h2 i (by omega) fun s _ => by omega
theorem aloneG_sum {vx : Nat → Bool} (h0 : ∀ k, g 0 k = 0) (hx : x ≠ 0) : aloneG vx g x x 6 = if vx x then 65537 else 1 := by
  have e3 : setP (up2 (up2 g x 3 0) x 4 0) x 0 x 3 = 0 := by rw [setP_field _ _ _ _ (by decide), up2_field _ _ _ _ (by decide), up2_same]
  have e4 : setP (up2 (up2 g x 3 0) x 4 0) x 0 x 4 = 0 := by rw [setP_field _ _ _ _ (by decide), up2_same]
  have e0 : setP (up2 (up2 g x 3 0) x 4 0) x 0 0 6 = 0 := by rw [setP_other _ _ _ (Ne.symm hx), up2_node _ _ _ _ (Ne.symm hx), up2_node _ _ _ _ (Ne.symm hx)]; exact h0 6
  unfold aloneG reckG
  rw [up2_same, e3, e4, e0]
  cases vx x <;> rfl
theorem aloneG_own (hx : x ≠ 0) {vx : Nat → Bool} : aloneG vx g x x 2 = 0 ∧ aloneG vx g x x 3 = 0 ∧ aloneG vx g x x 4 = 0 ∧ aloneG vx g x x 5 = g x 5 := by
  refine ⟨?_, ?_, ?_, aloneG_pri⟩ <;> unfold aloneG <;> rw [reckG_field _ _ _ _ _ (by decide)]
  · exact setP_same _ _ hx
  · rw [setP_field _ _ _ _ (by decide), up2_field _ _ _ _ (by decide), up2_same]
  · rw [setP_field _ _ _ _ (by decide), up2_same]
theorem ndF_sum : (((if vxN V y then 65537 else 1 : Nat)) : Int) = ndF V dl d y 6 := by
  have e6 : ndF V dl d y 6 = if (y : Int) ≤ vn V then 65537 else 1 := rfl
  rw [e6]
  unfold vxN arcN
  by_cases e : vn V ≤ (y : Int) - 1
  · rw [decide_eq_true e, if_neg (show ¬ (y : Int) ≤ vn V by omega)]; rfl
  · rw [decide_eq_false e, if_pos (show (y : Int) ≤ vn V by omega)]; rfl
/-- What the nodes have, out of the cells; beside x all pointer cells are known. -/
def gB (V S T : Int) (f : Nat → Int) (x : Nat) : Mg9 := fun y k => if y = 0 then 0 else if y ≤ nN V S then (if k = 2 then 0 else if k = 7 then (f (cN V S T y 2)).toNat else if k = 8 then (if y = x then 0 else 1) else (f (cN V S T y k)).toNat) else if k = 5 then (f (y - nN V S - 1)).toNat else 0
theorem gB_in (h1 : 1 ≤ y) (h2 : y ≤ nN V S) : gB V S T f x y k = if k = 2 then 0 else if k = 7 then (f (cN V S T y 2)).toNat else if k = 8 then (if y = x then 0 else 1) else (f (cN V S T y k)).toNat := by
  unfold gB; rw [if_neg (by omega), if_pos h2]
theorem gB_rl (h0 : ∀ i, 0 ≤ f i) (hz : ∀ y, 1 ≤ y → y ≤ nN V S → f (cN V S T y 2) = 0 ∧ f (cN V S T y 3) = 0 ∧ f (cN V S T y 4) = 0) : Rlf V S T f (gB V S T f x) := by
  refine ⟨fun k => if_pos rfl, fun y k h1 h2 h3 h4 => ?_, fun y h1 h2 _ => ?_, fun y h1 h2 _ => ?_, fun y hy => ?_, fun i hi => ?_, fun y h1 h2 _ _ => ?_⟩
  · rw [gB_in h1 h2, if_neg (by omega), if_neg (by omega), if_neg (by omega)]
    have := h0 (cN V S T y k); omega
  · rw [gB_in h1 h2, if_pos rfl]; exact (hz y h1 h2).1
  · rw [gB_in h1 h2, if_pos rfl, (hz y h1 h2).1]; exact ⟨by rfl, by rfl⟩
  · by_cases e : y = 0
    · subst e
      have e0 : ∀ k, gB V S T f x 0 k = 0 := fun k => if_pos rfl
      rw [e0, e0, e0]
      exact ⟨Nat.zero_le _, Nat.zero_le _, Nat.zero_le _⟩
    · have h1 : 1 ≤ y := by omega
      obtain ⟨a, b, c⟩ := hz y h1 hy
      rw [gB_in h1 hy, gB_in h1 hy, gB_in h1 hy, if_pos rfl, if_neg (by decide), if_neg (by decide), if_neg (by decide), if_neg (by decide), if_neg (by decide), if_neg (by decide), b, c]
      exact ⟨Nat.zero_le _, Nat.zero_le _, Nat.zero_le _⟩
  · unfold gB
    rw [if_neg (by omega), if_neg (by omega), if_pos rfl, show nN V S + 1 + i - nN V S - 1 = i by omega]
    have := h0 i; omega
  · rw [gB_in h1 h2, if_neg (by decide), if_pos rfl]
    have := h0 (cN V S T y 2); omega
/-- The node x, made, and cleaned: one more. -/
theorem bcX_next (hR : Rt V S T) (h1 : 1 ≤ x) (h2 : x ≤ nN V S) (hd : ∀ j, j < dl → d j ≤ 18446744073709551615) (hf : f = upd (upd (bcX V S T dl d x) (cN V S T x 0) (ndF V dl d x 0)) (cN V S T x 5) (ndF V dl d x 5))
    (hr : Rlf V S T f' (aloneG (vxN V) (gB V S T f x) x)) {F : Nat → Int} (hF : ∀ i, i ≠ cN V S T x 2 → F i = f' i) (h0 : F (cN V S T x 2) = 0) : F = bcX V S T dl d (x + 1) := by
  have hx0 : x ≠ 0 := by omega
  have f0 : ∀ i, 0 ≤ f i := fun i => by
    rw [hf]
    unfold upd
    split
    · exact (ndF_bd hd).1
    · split
      · exact (ndF_bd hd).1
      · exact (bcX_bd hR hd i).1
  have fo : ∀ i, i ≠ cN V S T x 0 → i ≠ cN V S T x 5 → f i = bcX V S T dl d x i := fun i a b => by rw [hf, upd_other _ _ b, upd_other _ _ a]
  have g0 : ∀ k, gB V S T f x 0 k = 0 := fun k => if_pos rfl
  -- what is none of the nodes' fields from 2 on
  have rest : ∀ i, (∀ y k, 1 ≤ y → y ≤ nN V S → 2 ≤ k → k ≤ 6 → i ≠ cN V S T y k) → f' i = f i := fun i hi => by
    rw [hr.o i hi, aloneG_other _ (by omega)]
    unfold gB
    rw [if_neg (by omega), if_neg (by omega), if_pos rfl, show nN V S + 1 + i - nN V S - 1 = i by omega]
    have := f0 i; omega
  funext i
  rcases cell_which hR i with h | ⟨y, k, y1, k7, rfl⟩
  · have far : ∀ y k, 1 ≤ y → i ≠ cN V S T y k := fun y k y1 e => by have := cN_int (k := k) hR y1; omega
    rw [hF _ (far _ _ h1), rest i fun y k y1 _ _ _ => far y k y1, fo i (far _ _ h1) (far _ _ h1), bcX_low h1 h, bcX_low (by omega) h]
  · rw [bcX_node hR y1 k7]
    have inj : ∀ {z j : Nat}, 1 ≤ z → j < 7 → (cN V S T y k = cN V S T z j ↔ y = z ∧ k = j) := fun z1 j7 => ⟨cN_inj hR y1 z1 k7 j7, fun e => by rw [e.1, e.2]⟩
    by_cases hy : y = x
    · subst hy
      rw [if_pos (by omega)]
      by_cases k2 : k = 2
      · subst k2; rw [h0]; rfl
      · rw [hF _ fun e => k2 ((inj h1 (by omega)).1 e).2]
        by_cases kl : k < 2
        · rw [rest _ fun z j z1 _ j2 _ e => by have := ((inj z1 (by omega)).1 e).2; omega]
          rcases (by omega : k = 0 ∨ k = 1) with rfl | rfl
          · rw [hf, upd_other _ _ fun e => absurd ((inj h1 (by omega)).1 e).2 (by omega), upd_same]
          · rw [fo _ (fun e => absurd ((inj h1 (by omega)).1 e).2 (by omega)) fun e => absurd ((inj h1 (by omega)).1 e).2 (by omega), bcX_node hR h1 (by omega), if_neg (by omega)]; rfl
        · rw [hr.c y k y1 h2 (by omega) (by omega)]
          obtain ⟨_, a3, a4, a5⟩ := aloneG_own (g := gB V S T f y) (vx := vxN V) hx0
          rcases (by omega : k = 3 ∨ k = 4 ∨ k = 5 ∨ k = 6) with rfl | rfl | rfl | rfl
          · rw [a3]; rfl
          · rw [a4]; rfl
          · rw [a5, gB_in h1 h2, if_neg (by decide), if_neg (by decide), if_neg (by decide), hf, upd_same]
            have := (ndF_bd (V := V) (x := y) (k := 5) hd).1; omega
          · rw [aloneG_sum g0 hx0]; exact ndF_sum
    · have n2 : cN V S T y k ≠ cN V S T x 2 := fun e => hy ((inj h1 (by omega)).1 e).1
      have n0 : cN V S T y k ≠ cN V S T x 0 := fun e => hy ((inj h1 (by omega)).1 e).1
      have n5 : cN V S T y k ≠ cN V S T x 5 := fun e => hy ((inj h1 (by omega)).1 e).1
      have same : f (cN V S T y k) = if y < x + 1 then ndF V dl d y k else 0 := by
        rw [fo _ n0 n5, bcX_node hR y1 k7]
        by_cases e : y < x
        · rw [if_pos e, if_pos (by omega)]
        · rw [if_neg e, if_neg (by omega)]
      rw [hF _ n2, ← same]
      by_cases yN : y ≤ nN V S
      · by_cases kl : k < 2
        · exact rest _ fun z j z1 _ j2 _ e => by have := ((inj z1 (by omega)).1 e).2; omega
        · by_cases k2 : k = 2
          · subst k2
            cases hp : isP V y with
            | true =>
              rw [hr.e y y1 yN hp (by rw [aloneG_other _ hy, gB_in y1 yN, if_neg (by decide), if_neg (by decide), if_pos rfl, if_neg hy]), aloneG_other _ hy, gB_in y1 yN, if_neg (by decide), if_pos rfl]
              have := f0 (cN V S T y 2); omega
            | false =>
              rw [hr.a y y1 yN hp, aloneG_other _ hy, gB_in y1 yN, if_pos rfl, same]
              split <;> rfl
          · rw [hr.c y k y1 yN (by omega) (by omega), aloneG_other _ hy, gB_in y1 yN, if_neg k2, if_neg (by omega), if_neg (by omega)]
            have := f0 (cN V S T y k); omega
      · exact rest _ fun z j z1 zN _ _ e => by have := ((inj z1 (by omega)).1 e).1; omega
theorem gB_ready (hR : Rt V S T) (h1 : 1 ≤ x) (hd : ∀ j, j < dl → d j ≤ 18446744073709551615) (hf : f = upd (upd (bcX V S T dl d x) (cN V S T x 0) (ndF V dl d x 0)) (cN V S T x 5) (ndF V dl d x 5)) : Rlf V S T f (gB V S T f x) := by
  have hz : ∀ y k, 1 ≤ y → k = 2 ∨ k = 3 ∨ k = 4 → f (cN V S T y k) = 0 := fun y k y1 hk => by
    rw [hf, upd_other _ _ fun e => by have := (cN_inj hR y1 h1 (by omega) (by omega) e).2; omega, upd_other _ _ fun e => by have := (cN_inj hR y1 h1 (by omega) (by omega) e).2; omega, bcX_node hR y1 (by omega)]
    split
    · rcases hk with rfl | rfl | rfl <;> rfl
    · rfl
  refine gB_rl (fun i => ?_) fun y y1 _ => ⟨hz y 2 y1 (.inl rfl), hz y 3 y1 (.inr (.inl rfl)), hz y 4 y1 (.inr (.inr rfl))⟩
  rw [hf]
  unfold upd
  split
  · exact (ndF_bd hd).1
  · split
    · exact (ndF_bd hd).1
    · exact (bcX_bd hR hd i).1
end

end Go.Proofs.Ytaooglagddphnaa

namespace Go.Proofs.Ytaooglagddphnaa
open Go.RowKit

set_option maxRecDepth 100000

theorem block_lt {W : World} {b o : Nat} {v : Value} (h : W.cell? ⟨b, o, none⟩ = some v) : b < W.heap.size := by
  rcases Nat.lt_or_ge b W.heap.size with h1 | h1
  · exact h1
  · exfalso
    unfold World.cell? at h
    rw [Array.getElem?_eq_none h1] at h
    cases h
/-- A node's lock at first. -/
def lkN (ar : Bool) (l : Int) : Int := if l = 0 ∧ ar = false then 0 else 65535
theorem lock_any (ar : Bool) (l v s d : Int) (w : World) :
    Calls Try.prog 108 #[vT ar l v s d] w fun e w' => e = .returned (.int .u64 (lkN ar l)) ∧ Below w.heap.size w w' := by
  have HB : Hid (Below w.heap.size w (w.alloc (.cells #[.bool ar, .int .i64 l, .int .i64 v, .int .i64 s, .int .i64 d] 161))) := Lib.hid ((Below.refl _ _).alloc (Nat.le_refl _) _)
  by_cases h0 : l = 0
  · subst h0
    cases ar
    · go_enter Try.func108, Try.ntmps108
      go_wp2_with fail
      go_ret
      exact ⟨rfl, HB.out⟩
    · go_enter Try.func108, Try.ntmps108
      go_wp2_with fail
      go_ret
      exact ⟨rfl, HB.out⟩
  · have HK : Hid (lkN ar l = 65535) := Lib.hid (if_neg fun h => h0 h.1)
    rw [HK.out]
    go_enter Try.func108, Try.ntmps108
    go_wp2_with fail
    go_ret
    exact ⟨rfl, HB.out⟩
/-- A node's priority at first. -/
def prN (dl : Nat) (d : Nat → Nat) (x : Nat) : Int := if dl = 0 then 0 else (d (x % dl) : Int)
theorem priority_any {w : World} {da : Option Addr} {dl dc x : Nat} {d : Nat → Nat} (hD : IsNum w da dl d) (hdl : dl ≤ 256) :
    Calls Try.prog 109 #[.int .i64 (x : Int), .slice da dl dc] w fun e w' => e = .returned (.int .u64 (prN dl d x)) ∧ Below w.heap.size w w' := by
  by_cases h0 : dl = 0
  · have HK : Hid (prN dl d x = 0) := Lib.hid (if_pos h0)
    rw [HK.out]
    subst h0
    go_enter Try.func109, Try.ntmps109
    go_wp2_with fail
    go_ret
    exact ⟨rfl, Below.refl _ _⟩
  · obtain ⟨db, off, rfl, hcell⟩ := hD (by omega)
    obtain ⟨j, hj⟩ : ∃ j, x % dl = j := ⟨_, rfl⟩
    have hjl : j < dl := by rw [← hj]; exact Nat.mod_lt _ (by omega)
    have D0 := (hcell j hjl).1
    obtain ⟨P9, hP9⟩ : ∃ P, d j = P := ⟨_, rfl⟩
    rw [hP9] at D0
    have HK : Hid (prN dl d x = (P9 : Int)) := Lib.hid (by unfold prN; rw [if_neg h0, hj, hP9])
    rw [HK.out]
    have hdI : (0 : Int) < (dl : Int) := by omega
    have hd0 : ¬ (dl : Int) = 0 := by omega
    have hd1 : ¬ dl = 0 := by omega
    have htm : (x : Int).tmod (dl : Int) = (j : Int) := by rw [← hj]; exact Int.ofNat_tmod x dl
    have hjw : IntKind.i64.wrap (j : Int) = (j : Int) := IntWalk.i64_in _ (by omega)
    have hj1 : (j : Int) < (dl : Int) := by omega
    have hj0 : (0 : Int) ≤ (j : Int) := by omega
    have dlt : db < w.heap.size := block_lt D0
    clear hP9 hcell hD
    go_enter Try.func109, Try.ntmps109
    go_wp2_with fail
    go_ret
    exact ⟨rfl, Below.refl _ _⟩
/-- makeNode's variables. -/
structure MN (W : World) (b c : Nat) (V S T : Int) (p : Nat) (ar : Bool) (l v s d : Int) : Prop where
  t : TB W b V S T p
  r : Blk W c 161 #[.bool ar, .int .i64 l, .int .i64 v, .int .i64 s, .int .i64 d]
section
variable {w w' w0 : World} {b c p gb cap m dl dc x : Nat} {V S T l v s z : Int} {ar : Bool} {f : Nat → Int} {d : Nat → Nat} {da : Option Addr}
theorem MN.below (h : MN w b c V S T p ar l v s z) (hb : Below w.heap.size w w') : MN w' b c V S T p ar l v s z := ⟨h.t.below hb, h.r.below hb h.r.lt⟩
theorem MN.drew (h : MN w b c V S T p ar l v s z) : MN w.drew b c V S T p ar l v s z := h.below (Below.refl _ _).drew
theorem MN.em (h : MN w b c V S T p ar l v s z) (A : EM w V S T p gb cap m f) (ho : Only p gb w w') : MN w' b c V S T p ar l v s z := ⟨Blk.em h.t A ho (by decide) (by decide), h.r.em A ho (by decide) (by decide)⟩
theorem mn_rule (b c : Nat) (V S T : Int) (p : Nat) (ar : Bool) (l v s z : Int) : ∀ W : World, MN W b c V S T p ar l v s z → W.cell? ⟨b, 0, none⟩ = some (.int .i64 V) ∧ W.cell? ⟨b, 1, none⟩ = some (.int .i64 S) ∧ W.cell? ⟨b, 2, none⟩ = some (.int .i64 T) ∧ W.cell? ⟨b, 3, none⟩ = some (.iface 84 (pmV p)) ∧ W.cell? ⟨b, 4, none⟩ = some (.int .i64 1) ∧ W.cell? ⟨b, 5, none⟩ = some (.int .i64 0) ∧
    W.cell? ⟨c, 0, none⟩ = some (.bool ar) ∧ W.cell? ⟨c, 1, none⟩ = some (.int .i64 l) ∧ W.cell? ⟨c, 2, none⟩ = some (.int .i64 v) ∧ W.cell? ⟨c, 3, none⟩ = some (.int .i64 s) ∧ W.cell? ⟨c, 4, none⟩ = some (.int .i64 z) := fun W h => by
  obtain ⟨y0, y1, y2, y3, y4, y5⟩ := h.t.cells
  exact ⟨y0, y1, y2, y3, y4, y5, h.r.cell 0, h.r.cell 1, h.r.cell 2, h.r.cell 3, h.r.cell 4⟩
theorem MN.arn {n : Nat} {c9 f : Nat → Int} (h : MN w b c V S T p ar l v s z) (A : Ar w p gb n cap c9 f) (ho : Only p gb w w') : MN w' b c V S T p ar l v s z := by
  obtain ⟨zs, hz, _⟩ := A.cells
  exact ⟨Blk.only h.t ho (Blk.ne_ h.t A.own (by decide)) (Blk.ne_ h.t hz (by decide)), h.r.only ho (Blk.ne_ h.r A.own (by decide)) (Blk.ne_ h.r hz (by decide))⟩
/-- Numbers that came in stay. -/
theorem num_only (hD : IsNum w0 da dl d) (hB : Below w0.heap.size w0 w) (hp : w0.heap.size ≤ p) (hg : w0.heap.size ≤ gb) (ho : Only p gb w w') : IsNum w' da dl d := hD.below (Only.below hB ho hB.size hp hg)
theorem cellsNE (V S T : Int) : cellsN V S T = cellsE V S T := rfl
theorem lkN_nd (hR : Rt V S T) (h1 : 1 ≤ x) : lkN (arcN V x) (lvN V x) = ndF V dl d x 0 := by
  have hv := hR.v1
  have hl : V ≤ vn V := by
    have := (lv_bd V).1
    have : 1 * V ≤ lv V * V := Int.mul_le_mul_of_nonneg_right this (by omega)
    unfold vn; omega
  unfold lkN ndF
  rw [if_pos rfl]
  unfold arcN lvN
  by_cases e : vn V ≤ (x : Int) - 1
  · rw [if_neg (by rw [decide_eq_true e]; exact fun h => nomatch h.2), if_neg (by omega)]
  · rw [if_neg e, decide_eq_false e]
    by_cases e2 : (x : Int) ≤ V
    · rw [if_pos e2, if_pos ⟨Int.ediv_eq_zero_of_lt (by omega) (by omega), rfl⟩]
    · rw [if_neg e2, if_neg]
      rintro ⟨h, _⟩
      have h2 := Int.mul_ediv_add_emod ((x : Int) - 1) V
      rw [h, Int.mul_zero] at h2
      have := Int.emod_lt_of_pos ((x : Int) - 1) (by omega : 0 < V)
      omega
theorem prN_nd : prN dl d x = ndF V dl d x 5 := rfl
set_option maxHeartbeats 8000000 in
theorem makeNode_any (hE : EM w V S T p gb cap m (bcX V S T dl d x)) (h1 : 1 ≤ x) (h2 : x ≤ nN V S) (hD : IsNum w0 da dl d) (hdl : dl ≤ 256) (hB : Below w0.heap.size w0 w) (hp : w0.heap.size ≤ p) (hg : w0.heap.size ≤ gb) (hm : m ≤ 99000000) :
    Calls Try.prog 62 #[vTr V S T p, .int .i64 (x : Int), .slice da dl dc] w fun e w' => e = .returned (.tuple #[]) ∧ EM w' V S T p gb cap (m + 20) (bcX V S T dl d (x + 1)) ∧ Only p gb w w' := by
  have hd : ∀ j, j < dl → d j ≤ 18446744073709551615 := fun j hj => by
    obtain ⟨_, _, _, h⟩ := hD (by omega)
    exact (h j hj).2
  have ms := methp_store
  have ns := nilp_store
  have hx560 : x ≤ 560 := Nat.le_trans h2 (nN_le hE.hR)
  have xI : (x : Int) ≤ 560 := by omega
  have HR := Lib.hid hE.hR
  have HDD := Lib.hid hd
  have HX1 := Lib.hid h1
  have HXN := Lib.hid h2
  have HD := Lib.hid hD
  have HDL := Lib.hid hdl
  have HX5 := Lib.hid hx560
  have HPG := Lib.hid (And.intro hp hg)
  obtain ⟨f0, hf0⟩ : ∃ f, bcX V S T dl d x = f := ⟨_, rfl⟩
  have HF0 := Lib.hid hf0
  have HE : Hid (EM w V S T p gb cap m f0) := Lib.hid (by rw [← hf0]; exact hE)
  have HB := Lib.hid hB
  have HL0 : Hid (fieldF V S T (x : Int) 0 = (cN V S T x 0 : Int)) := Lib.hid (field_cN HR.out h1 h2 (k := 0) (by omega))
  have HL5 : Hid (fieldF V S T (x : Int) 5 = (cN V S T x 5 : Int)) := Lib.hid (field_cN HR.out h1 h2 (k := 5) (by omega))
  have HL2 : Hid (fieldF V S T (x : Int) 2 = (cN V S T x 2 : Int)) := Lib.hid (field_cN HR.out h1 h2 (k := 2) (by omega))
  have HC0 : Hid (cN V S T x 0 < cellsE V S T) := Lib.hid (cN_lt HR.out h1 h2 (by omega))
  have HC5 : Hid (cN V S T x 5 < cellsE V S T) := Lib.hid (cN_lt HR.out h1 h2 (by omega))
  have HC2 : Hid (cN V S T x 2 < cellsE V S T) := Lib.hid (cN_lt HR.out h1 h2 (by omega))
  obtain ⟨K0, hK0⟩ : ∃ k, ndF V dl d x 0 = k := ⟨_, rfl⟩
  obtain ⟨K5, hK5⟩ : ∃ k, ndF V dl d x 5 = k := ⟨_, rfl⟩
  have HK0 := Lib.hid hK0
  have HK5 := Lib.hid hK5
  have HLK : Hid (lkN (arcN V x) (lvN V x) = K0) := Lib.hid (by rw [← hK0]; exact lkN_nd HR.out h1)
  have HPR : Hid (prN dl d x = K5) := Lib.hid (by rw [← hK5]; exact prN_nd)
  have HB0 : Hid (0 ≤ K0 ∧ K0 ≤ 18446744073709551615) := Lib.hid (by rw [← hK0]; exact ndF_bd hd)
  have HB5 : Hid (0 ≤ K5 ∧ K5 ≤ 18446744073709551615) := Lib.hid (by rw [← hK5]; exact ndF_bd hd)
  obtain ⟨q0, hq0⟩ : ∃ k, cN V S T x 0 = k := ⟨_, rfl⟩
  obtain ⟨q5, hq5⟩ : ∃ k, cN V S T x 5 = k := ⟨_, rfl⟩
  obtain ⟨q2, hq2⟩ : ∃ k, cN V S T x 2 = k := ⟨_, rfl⟩
  have HQ0 := Lib.hid hq0
  have HQ5 := Lib.hid hq5
  have HQ2 := Lib.hid hq2
  rw [hq0] at HL0 HC0
  rw [hq5] at HL5 HC5
  rw [hq2] at HL2 HC2
  have HM := Lib.hid hm
  clear hE h1 h2 hD hdl hx560 hp hg hf0 hB hK0 hK5 hq0 hq5 hq2 hd
  have HT : Hid (TB (w.alloc (.cells #[.int .i64 V, .int .i64 S, .int .i64 T, .iface 84 (pmV p), .int .i64 1, .int .i64 0] 32)) w.heap.size V S T p) := Lib.hid (TB.new _ _ _ _ _)
  have HEa := Lib.hid (HE.out.below ((Below.refl _ _).alloc (Nat.le_refl _) (.cells #[.int .i64 V, .int .i64 S, .int .i64 T, .iface 84 (pmV p), .int .i64 1, .int .i64 0] 32)))
  have HOa := Lib.hid ((Only.refl p gb w).alloc (.cells #[.int .i64 V, .int .i64 S, .int .i64 T, .iface 84 (pmV p), .int .i64 1, .int .i64 0] 32))
  go_enter Try.func62, Try.ntmps62
  go_wp2_with fail
  generalize hwb : w.heap.size = b at HT ⊢
  generalize hW : w.alloc (.cells #[.int .i64 V, .int .i64 S, .int .i64 T, .iface 84 (pmV p), .int .i64 1, .int .i64 0] 32) = W at HT HEa HOa ⊢
  clear hW hwb
  obtain ⟨y0, y1, y2, y3, y4, y5⟩ := HT.out.cells
  have hlt := HT.out.lt
  refine (node_is HR.out HX1.out HXN.out _).mono ?_; rintro e w1 ⟨⟨v, s, z, rfl⟩, hb1⟩
  obtain ⟨ar, har⟩ : ∃ a, arcN V x = a := ⟨_, rfl⟩
  obtain ⟨l, hl⟩ : ∃ l, lvN V x = l := ⟨_, rfl⟩
  rw [har, hl] at HLK
  rw [har, hl]
  have HLV := Lib.hid hl
  clear har hl
  have HM2 : Hid (MN (w1.alloc (.cells #[.bool ar, .int .i64 l, .int .i64 v, .int .i64 s, .int .i64 z] 161)) b w1.heap.size V S T p ar l v s z) := Lib.hid ⟨(HT.out.below hb1).alloc _, Blk.new _ _ _⟩
  have HE2 := Lib.hid ((HEa.out.below hb1).below ((Below.refl _ _).alloc (Nat.le_refl _) (.cells #[.bool ar, .int .i64 l, .int .i64 v, .int .i64 s, .int .i64 z] 161)))
  have HO2 := Lib.hid ((HOa.out.trans (Only.of_below hb1)).alloc (.cells #[.bool ar, .int .i64 l, .int .i64 v, .int .i64 s, .int .i64 z] 161))
  clear HT HEa HOa hb1 y0 y1 y2 y3 y4 y5 hlt HE
  go_wp2_with fail
  generalize hwc : w1.heap.size = c at HM2 ⊢
  generalize hW : w1.alloc (.cells #[.bool ar, .int .i64 l, .int .i64 v, .int .i64 s, .int .i64 z] 161) = W2 at HM2 HE2 HO2 ⊢
  clear hW hwc
  have hrule := mn_rule b c V S T p ar l v s z
  have HMd := Lib.hid HM2.out.drew
  have HEd := Lib.hid HE2.out.drew
  have HOd := Lib.hid HO2.out.drew
  clear HM2 HE2 HO2
  go_region_held3 (fun W => MN W b c V S T p ar l v s z) (first | (with_reducible assumption) | (with_reducible exact HMd.out) | (with_reducible exact MN.below (by assumption) hb1) | (with_reducible exact MN.em (by assumption) (Hid.out (by assumption : Hid (EM _ V S T p gb cap m f0))) O2))
    (first
      | (go_at_call 37; ((with_reducible refine (field_yes V S T (x : Int) 0 HR.out (by omega) (by omega) _).mono ?_); rintro e w' ⟨rfl, hb1⟩; rw [HL0.out]; have HE3 := Lib.hid (EM.below (Hid.out (by assumption : Hid (EM _ V S T p gb cap m f0))) hb1); have HO3 := Lib.hid (Only.trans (Hid.out (by assumption : Hid (Only p gb w _))) (Only.of_below hb1))))
      | (go_at_call 108; ((with_reducible refine (lock_any ar l v s z _).mono ?_); rintro e w' ⟨rfl, hb1⟩; rw [HLK.out]; have HE3 := Lib.hid (EM.below (Hid.out (by assumption : Hid (EM _ V S T p gb cap m f0))) hb1); have HO3 := Lib.hid (Only.trans (Hid.out (by assumption : Hid (Only p gb w _))) (Only.of_below hb1))))
      | ((with_reducible refine (em_store (Hid.out (by assumption : Hid (EM _ V S T p gb cap m f0))) HC0.out HB0.out.1 HB0.out.2 (by omega) rfl).mono ?_); rintro e w2 ⟨rfl, A2, O2⟩; have HM3 := Lib.hid (MN.em (by assumption) (Hid.out (by assumption : Hid (EM _ V S T p gb cap m f0))) O2); have HF3 := Lib.hid A2; have HP3 := Lib.hid (Only.trans (Hid.out (by assumption : Hid (Only p gb w _))) O2)))
  all_goals
    clear A2 O2 HE3 HO3 HMd HEd HOd
    go_wp2_with fail
    have HMd := Lib.hid HM3.out.drew
    have HEd := Lib.hid HF3.out.drew
    have HOd := Lib.hid HP3.out.drew
    clear HM3 HF3 HP3
    obtain ⟨f1, hf1⟩ : ∃ f, upd f0 q0 K0 = f := ⟨_, rfl⟩
    rw [hf1] at HEd
    have HF1 := Lib.hid hf1
    clear hf1
    go_region_held3 (fun W => MN W b c V S T p ar l v s z) (first | (with_reducible assumption) | (with_reducible exact HMd.out) | (with_reducible exact MN.below (by assumption) hb1) | (with_reducible exact MN.em (by assumption) (Hid.out (by assumption : Hid (EM _ V S T p gb cap (m + 1) f1))) O2))
      (first
        | (go_at_call 37; ((with_reducible refine (field_yes V S T (x : Int) 5 HR.out (by omega) (by omega) _).mono ?_); rintro e w' ⟨rfl, hb1⟩; rw [HL5.out]; have HE4 := Lib.hid (EM.below (Hid.out (by assumption : Hid (EM _ V S T p gb cap (m + 1) f1))) hb1); have HO4 := Lib.hid (Only.trans (Hid.out (by assumption : Hid (Only p gb w _))) (Only.of_below hb1))))
        | (go_at_call 109; ((with_reducible refine (priority_any (num_only HD.out HB.out HPG.out.1 HPG.out.2 (Hid.out (by assumption : Hid (Only p gb w _)))) HDL.out).mono ?_); rintro e w' ⟨rfl, hb1⟩; rw [HPR.out]; have HE4 := Lib.hid (EM.below (Hid.out (by assumption : Hid (EM _ V S T p gb cap (m + 1) f1))) hb1); have HO4 := Lib.hid (Only.trans (Hid.out (by assumption : Hid (Only p gb w _))) (Only.of_below hb1))))
        | ((with_reducible refine (em_store (Hid.out (by assumption : Hid (EM _ V S T p gb cap (m + 1) f1))) HC5.out HB5.out.1 HB5.out.2 (by omega) rfl).mono ?_); rintro e w2 ⟨rfl, A2, O2⟩; have HM4 := Lib.hid (MN.em (by assumption) (Hid.out (by assumption : Hid (EM _ V S T p gb cap (m + 1) f1))) O2); have HF4 := Lib.hid A2; have HP4 := Lib.hid (Only.trans (Hid.out (by assumption : Hid (Only p gb w _))) O2)))
    all_goals
      clear A2 O2 HE4 HO4 HMd HEd HOd
      have HN := HM4.out
      obtain ⟨y0, y1, y2, y3, y4, y5⟩ := HN.t.cells
      have hlt := HN.t.lt
      clear HN
      obtain ⟨_, c4, A4, C4⟩ := HF4.out
      have HFF : Hid (upd f1 q5 K5 = upd (upd (bcX V S T dl d x) (cN V S T x 0) (ndF V dl d x 0)) (cN V S T x 5) (ndF V dl d x 5)) := Lib.hid (by rw [← HF1.out, HQ0.out, HQ5.out, HK0.out, HK5.out, HF0.out])
      have HTM : Hid (TMf w2 V S T p gb cap (m + 2) (gB V S T (upd f1 q5 K5) x)) := Lib.hid ⟨HR.out, c4, _, A4, C4, gB_ready HR.out HX1.out HDD.out HFF.out⟩
      clear A4 C4
      go_wp2_with fail
      refine (talonef HTM.out HX1.out HXN.out (fun _ => by rw [gB_in HX1.out HXN.out, if_neg (by decide), if_neg (by decide), if_pos rfl, if_pos rfl]; decide) (by omega)).mono ?_; rintro e w5 ⟨rfl, A5, O5⟩
      have HM5 := Lib.hid (HM4.out.em HF4.out O5)
      have HP5 := Lib.hid (HP4.out.trans O5)
      obtain ⟨_, c5, f5, A6, C6, r6⟩ := A5
      have HG2 : Hid (aloneG (vxN V) (gB V S T (upd f1 q5 K5) x) x x 2 = 0) := Lib.hid (aloneG_own (by have := HX1.out; omega)).1
      have HA6 := Lib.hid A6
      have HC6 := Lib.hid C6
      have HR6 := Lib.hid r6
      clear O5 A6 C6 r6 HTM HF4 HP4 HM4 y0 y1 y2 y3 y4 y5 hlt
      have HN := HM5.out
      obtain ⟨y0, y1, y2, y3, y4, y5, u0, u1, u2, u3, u4⟩ := mn_rule b c V S T p ar l v s z w5 HN
      have hlt := HN.t.lt
      have ult := HN.r.lt
      clear HN
      by_cases hl0 : l = 0
      · have HIP : Hid (isP V x = true) := Lib.hid (decide_eq_true ⟨by have := HX1.out; omega, HLV.out.trans hl0⟩)
        have HV6 : Hid (rightV (f5 q2) = true) := Lib.hid (by rw [← HQ2.out]; exact (HR6.out.p x HX1.out HXN.out HIP.out).1)
        have HN6 : Hid (rN (f5 q2) = 0) := Lib.hid (by rw [← HQ2.out, (HR6.out.p x HX1.out HXN.out HIP.out).2, HG2.out]; rfl)
        subst hl0
        go_wp2_with fail
        have HMd := Lib.hid HM5.out.drew
        have HAd := Lib.hid HA6.out.drew
        have HOd := Lib.hid HP5.out.drew
        clear y0 y1 y2 y3 y4 y5 u0 u1 u2 u3 u4 hlt ult HM5 HA6 HP5
        go_region_held3 (fun W => MN W b c V S T p ar 0 v s z) (first | (with_reducible assumption) | (with_reducible exact HMd.out) | (with_reducible exact MN.below (by assumption) hb1) | (with_reducible exact MN.arn (by assumption) (Hid.out (by assumption : Hid (Ar _ p gb _ cap c5 f5))) O2))
          (first
            | (go_at_call 37; ((with_reducible refine (field_yes V S T (x : Int) 2 HR.out (by omega) (by omega) _).mono ?_); rintro e w' ⟨rfl, hb1⟩; rw [HL2.out]; have HA7 := Lib.hid (HAd.out.below hb1 (Nat.le_refl _)); have HO7 := Lib.hid (HOd.out.trans (Only.of_below hb1))))
            | (go_at_call 110; ((with_reducible refine (clean_yes HA7.out HC2.out (isW_any _) HV6.out HC6.out (by omega)).mono ?_); rintro e w7 ⟨rfl, A2, O2⟩; have HA8 := Lib.hid A2; have HO8 := Lib.hid (HO7.out.trans O2))))
        go_wp2_with fail
        go_end0
        have hA := HA8.out
        rw [HN6.out] at hA
        have hX := bcX_next HR.out HX1.out HXN.out HDD.out HFF.out HR6.out (F := upd f5 q2 (bitsW 0 0 0 0)) (fun i hi => upd_other _ _ (by rw [← HQ2.out]; exact hi)) (by rw [HQ2.out, upd_same]; rfl)
        rw [hX] at hA
        exact ⟨rfl, ⟨HR.out, _, hA, ((HC6.out.upd 0).upd 1).more (by omega)⟩, HO8.out⟩
      · have HIP : Hid (isP V x = false) := Lib.hid (decide_eq_false fun h => hl0 (HLV.out.symm.trans h.2))
        go_wp2_with fail
        go_end0
        have hX := bcX_next HR.out HX1.out HXN.out HDD.out HFF.out HR6.out (F := f5) (fun i _ => rfl) (by rw [HR6.out.a x HX1.out HXN.out HIP.out, HG2.out]; rfl)
        have hA := HA6.out
        rw [hX] at hA
        exact ⟨rfl, ⟨HR.out, _, hA, HC6.out.more (by omega)⟩, HP5.out⟩
end

end Go.Proofs.Ytaooglagddphnaa

namespace Go.Proofs.Ytaooglagddphnaa
open Go.RowKit

set_option maxRecDepth 100000

/-- What New leaves of a lay and draws that are right. -/
def BornD (V S T : Int) (dl : Nat) (d : Nat → Nat) (w : World) (e : Ending) (w' : World) : Prop :=
  ∃ p gb cap, e = .returned (.tuple #[.pointer (some ⟨p, 0, none⟩), .int .i64 0]) ∧ EM w' V S T p gb cap 12000 (bcX V S T dl d (nN V S + 1)) ∧ w.heap.size ≤ p ∧ w.heap.size ≤ gb ∧ Below w.heap.size w w'
/-- New's memory: its variables, and the arena. -/
structure NW (w0 W : World) (lb tb : Nat) (V S T : Int) (p gb cap m : Nat) (f : Nat → Int) : Prop where
  l : Blk W lb 23 #[.int .i64 V, .int .i64 S, .int .i64 T]
  t : TB W tb V S T p
  e : EM W V S T p gb cap m f
  be : Below w0.heap.size w0 W
  kp : w0.heap.size ≤ p
  kg : w0.heap.size ≤ gb
section
variable {w w' w0 : World} {V S T : Int} {lb tb p gb cap m m' dl dc : Nat} {f f' : Nat → Int} {d : Nat → Nat} {da : Option Addr}
theorem NW.below (h : NW w0 w lb tb V S T p gb cap m f) (hb : Below w.heap.size w w') : NW w0 w' lb tb V S T p gb cap m f := ⟨h.l.below hb h.l.lt, h.t.below hb, h.e.below hb, h.be.trans (hb.mono h.be.size), h.kp, h.kg⟩
theorem NW.only (h : NW w0 w lb tb V S T p gb cap m f) (E : EM w' V S T p gb cap m' f') (ho : Only p gb w w') : NW w0 w' lb tb V S T p gb cap m' f' := ⟨h.l.em h.e ho (by decide) (by decide), Blk.em h.t h.e ho (by decide) (by decide), E, Only.below h.be ho h.be.size h.kp h.kg, h.kp, h.kg⟩
/-- Between two nodes. -/
def NwRel (w0 : World) (lb tb : Nat) (V S T : Int) (p gb cap dl : Nat) (d : Nat → Nat) (i : Value) (W : World) : Prop :=
  ∃ k, k ≤ nN V S ∧ i = .int .i64 ((k : Nat) : Int) ∧ NW w0 W lb tb V S T p gb cap (100 + 20 * k) (bcX V S T dl d (k + 1))
theorem makeNode_at {x : Nat} {xI : Int} (hxI : xI = (x : Int)) (hE : EM w V S T p gb cap m (bcX V S T dl d x)) (h1 : 1 ≤ x) (h2 : x ≤ nN V S) (hD : IsNum w0 da dl d) (hdl : dl ≤ 256) (hB : Below w0.heap.size w0 w) (hp : w0.heap.size ≤ p) (hg : w0.heap.size ≤ gb) (hm : m ≤ 99000000) :
    Calls Try.prog 62 #[vTr V S T p, .int .i64 xI, .slice da dl dc] w fun e w' => e = .returned (.tuple #[]) ∧ EM w' V S T p gb cap (m + 20) (bcX V S T dl d (x + 1)) ∧ Only p gb w w' := by
  subst hxI
  exact makeNode_any hE h1 h2 hD hdl hB hp hg hm
theorem o3_cells (hR : Rt V S T) : o3 S T ≤ cn V S T := by
  have h1 := o_order hR
  have h2 := (sizes hR).nd1
  have h3 : cn V S T = o5 V S T + nd V S * 7 := by unfold cn o5; omega
  omega
set_option maxHeartbeats 4000000 in
theorem new_born (hR : Rt V S T) (hD : IsNum w da dl d) (hdl : dl ≤ 256) :
    Calls Try.prog 21 #[vL V S T, .slice da dl dc] w (BornD V S T dl d w) := by
  obtain ⟨Sn, rfl⟩ : ∃ n : Nat, S = (n : Int) := ⟨S.toNat, by have := hR.s1; omega⟩
  obtain ⟨t, rfl⟩ : ∃ n : Nat, T = (n : Int) := ⟨T.toNat, by have := hR.t1; omega⟩
  have HR := Lib.hid hR
  have HY := Lib.hid hR.yes
  have HD := Lib.hid hD
  have HDL := Lib.hid hdl
  have hdI : ¬ (256 : Int) < (dl : Int) := by omega
  have hn560 := nN_le hR
  clear hR hD
  have HL : Hid (Blk (w.alloc (.cells #[.int .i64 V, .int .i64 (Sn : Int), .int .i64 (t : Int)] 23)) w.heap.size 23 #[.int .i64 V, .int .i64 (Sn : Int), .int .i64 (t : Int)]) := Lib.hid (Blk.new _ _ _)
  have HB : Hid (Below w.heap.size w (w.alloc (.cells #[.int .i64 V, .int .i64 (Sn : Int), .int .i64 (t : Int)] 23))) := Lib.hid ((Below.refl _ _).alloc (Nat.le_refl _) _)
  go_enter Try.func21, Try.ntmps21
  go_wp2_with fail
  generalize hlb : w.heap.size = lb at HL ⊢
  generalize hW : w.alloc (.cells #[.int .i64 V, .int .i64 (Sn : Int), .int .i64 (t : Int)] 23) = W1 at HL HB ⊢
  clear hW
  have HLB := Lib.hid hlb
  clear hlb
  refine (right_any _ _ _ _).mono ?_; rintro e w1 ⟨rfl, hb1⟩; rw [HY.out]
  have HL1 := Lib.hid (HL.out.below hb1 HL.out.lt)
  have HB1 := Lib.hid (HB.out.trans (hb1.mono HB.out.size))
  clear HL HB hb1
  have l0 : w1.cell? ⟨lb, 0, none⟩ = some (.int .i64 V) := HL1.out.cell 0
  have l1 : w1.cell? ⟨lb, 1, none⟩ = some (.int .i64 (Sn : Int)) := HL1.out.cell 1
  have l2 : w1.cell? ⟨lb, 2, none⟩ = some (.int .i64 (t : Int)) := HL1.out.cell 2
  have llt := HL1.out.lt
  go_wp2_with fail
  refine (cells_yes V (Sn : Int) (t : Int) HR.out _).mono ?_; rintro e w2 ⟨rfl, hb2⟩
  have HL2 := Lib.hid (HL1.out.below hb2 HL1.out.lt)
  have HB2 := Lib.hid (HB1.out.trans (hb2.mono HB1.out.size))
  clear HL1 HB1 hb2 l0 l1 l2 llt
  go_wp2_with fail
  refine (lnew HR.out _).mono ?_; rintro e w3 ⟨rfl, hA, hb3⟩
  have HL3 := Lib.hid (HL2.out.below hb3 HL2.out.lt)
  have HB3 := Lib.hid (HB2.out.trans (hb3.mono HB2.out.size))
  have HA3 := Lib.hid hA
  have HKP : Hid (w.heap.size ≤ w2.heap.size + 1 ∧ w.heap.size ≤ w2.heap.size) := Lib.hid ⟨Nat.le_trans HB2.out.size (Nat.le_succ _), HB2.out.size⟩
  clear HL2 HB2 hb3 hA
  generalize w2.heap.size + 1 = p at HA3 HKP ⊢
  generalize w2.heap.size = gb at HA3 HKP
  have b0 : ((0 : Int) != 0) = false := rfl
  go_wp2_with fail
  refine (pm_of p _).mono ?_; rintro e w4 ⟨rfl, hb4⟩
  have HL4 := Lib.hid ((HL3.out.below hb4 HL3.out.lt).alloc (.cells #[.pointer (some ⟨p, 0, none⟩)] 84))
  have HB4 := Lib.hid ((HB3.out.trans (hb4.mono HB3.out.size)).alloc ((HB3.out.trans (hb4.mono HB3.out.size)).size) (.cells #[.pointer (some ⟨p, 0, none⟩)] 84))
  have HA4 := Lib.hid ((HA3.out.below hb4 (Nat.le_refl _)).alloc (.cells #[.pointer (some ⟨p, 0, none⟩)] 84))
  have HM4 : Hid (Blk (w4.alloc (.cells #[.pointer (some ⟨p, 0, none⟩)] 84)) w4.heap.size 84 #[.pointer (some ⟨p, 0, none⟩)]) := Lib.hid (Blk.new _ _ _)
  clear HL3 HB3 HA3 hb4 b0
  have l0 : (w4.alloc (.cells #[.pointer (some ⟨p, 0, none⟩)] 84)).cell? ⟨lb, 0, none⟩ = some (.int .i64 V) := HL4.out.cell 0
  have l1 : (w4.alloc (.cells #[.pointer (some ⟨p, 0, none⟩)] 84)).cell? ⟨lb, 1, none⟩ = some (.int .i64 (Sn : Int)) := HL4.out.cell 1
  have l2 : (w4.alloc (.cells #[.pointer (some ⟨p, 0, none⟩)] 84)).cell? ⟨lb, 2, none⟩ = some (.int .i64 (t : Int)) := HL4.out.cell 2
  have m0 : (w4.alloc (.cells #[.pointer (some ⟨p, 0, none⟩)] 84)).cell? ⟨w4.heap.size, 0, none⟩ = some (.pointer (some ⟨p, 0, none⟩)) := HM4.out.cell 0
  have llt := HL4.out.lt
  go_wp2_with fail
  generalize hW5 : w4.alloc (.cells #[.pointer (some ⟨p, 0, none⟩)] 84) = W5 at HL4 HB4 HA4 HM4 l0 l1 l2 m0 llt ⊢
  generalize hwm : w4.heap.size = mb at HM4 m0 ⊢
  clear hW5 hwm l0 l1 l2 m0 llt
  have HE4 : Hid (EM W5 V (Sn : Int) (t : Int) p gb (cellsN V (Sn : Int) (t : Int)) 0 zeroF) := Lib.hid ⟨HR.out, zeroF, HA4.out, fun _ => ⟨Int.le_refl _, Int.le_refl _⟩⟩
  have HN1 : Hid (t < cellsN V (Sn : Int) (t : Int) ∧ ∀ s, s < Sn → t + 1 + s * 7 < cellsN V (Sn : Int) (t : Int)) := Lib.hid (by
    have h1 := cellsE_int HR.out
    have h2 := o3_cells HR.out
    have h3 : o3 (Sn : Int) (t : Int) = t + 1 + Sn * 7 := rfl
    rw [cellsNE]
    exact ⟨by omega, fun s hs => by omega⟩)
  refine (init_any (m := 0) HR.out rfl HA4.out HN1.out.1 HN1.out.2 (fun _ => ⟨Int.le_refl _, Int.le_refl _⟩) (by omega)).mono ?_; rintro e w6 ⟨rfl, ib, c6, f6, A6, C6, _, _, g0, g1, g2, _, O6⟩
  have hF : f6 = bcX V (Sn : Int) (t : Int) dl d 1 := bcX_first HR.out rfl rfl g0 g1 (fun k a b => (g2 k a b).trans rfl)
  rw [hF] at A6
  have HE6 : Hid (EM w6 V (Sn : Int) (t : Int) p gb (cellsN V (Sn : Int) (t : Int)) 100 (bcX V (Sn : Int) (t : Int) dl d 1)) := Lib.hid ⟨HR.out, c6, A6, C6.more (by have := HR.out.s2; omega)⟩
  have HL6 := Lib.hid (HL4.out.em HE4.out O6 (by decide) (by decide))
  have HM6 := Lib.hid (HM4.out.em HE4.out O6 (by decide) (by decide))
  have HB6 := Lib.hid (Only.below HB4.out O6 HB4.out.size HKP.out.1 HKP.out.2)
  clear hF A6 C6 g0 g1 g2 O6 HE4 HL4 HM4 HB4 HA4 HN1
  have l0 : w6.cell? ⟨lb, 0, none⟩ = some (.int .i64 V) := HL6.out.cell 0
  have l1 : w6.cell? ⟨lb, 1, none⟩ = some (.int .i64 (Sn : Int)) := HL6.out.cell 1
  have l2 : w6.cell? ⟨lb, 2, none⟩ = some (.int .i64 (t : Int)) := HL6.out.cell 2
  have m0 : w6.cell? ⟨mb, 0, none⟩ = some (.pointer (some ⟨p, 0, none⟩)) := HM6.out.cell 0
  have llt := HL6.out.lt
  have mlt := HM6.out.lt
  go_wp2_with fail
  have H7 : Hid (NW w (w6.alloc (.cells #[.int .i64 V, .int .i64 (Sn : Int), .int .i64 (t : Int), .iface 84 (pmV p), .int .i64 1, .int .i64 0] 32)) lb w6.heap.size V (Sn : Int) (t : Int) p gb (cellsN V (Sn : Int) (t : Int)) 100 (bcX V (Sn : Int) (t : Int) dl d 1)) := Lib.hid ⟨HL6.out.alloc _, TB.new _ _ _ _ _, HE6.out.below ((Below.refl _ _).alloc (Nat.le_refl _) _), HB6.out.alloc HB6.out.size _, HKP.out.1, HKP.out.2⟩
  generalize hW7 : w6.alloc (.cells #[.int .i64 V, .int .i64 (Sn : Int), .int .i64 (t : Int), .iface 84 (pmV p), .int .i64 1, .int .i64 0] 32) = W7 at H7 ⊢
  generalize hwt : w6.heap.size = tb at H7 ⊢
  clear hW7 hwt l0 l1 l2 m0 llt mlt HE6 HL6 HM6 HB6
  refine (lnodes HR.out _).mono ?_; rintro e w8 ⟨rfl, hb8⟩
  have H8 := Lib.hid (H7.out.below hb8)
  clear H7 hb8
  obtain ⟨n9, hn9⟩ : ∃ n, nN V (Sn : Int) = n := ⟨_, rfl⟩
  have HN9 := Lib.hid hn9
  rw [hn9] at hn560 ⊢
  clear hn9
  have nI : (n9 : Int) ≤ 560 := by omega
  have HRel : Hid (NwRel w lb tb V (Sn : Int) (t : Int) p gb (cellsN V (Sn : Int) (t : Int)) dl d (.int .i64 0) w8) := Lib.hid ⟨0, Nat.zero_le _, rfl, H8.out⟩
  clear H8
  go_wp2_with fail
  go_loopw [39] (fun i wr => NwRel w lb tb V (Sn : Int) (t : Int) p gb (cellsN V (Sn : Int) (t : Int)) dl d i wr) (fun i _ => n9 - (intOf i).toNat)
  case atStart => exact HRel.out
  case round =>
    clear HRel
    obtain ⟨k, hk, rfl, hS⟩ := hrel
    rw [HN9.out] at hk
    have HS := Lib.hid hS
    clear hS
    obtain ⟨y0, y1, y2, y3, y4, y5⟩ := HS.out.t.cells
    have tlt := HS.out.t.lt
    by_cases hkn : k < n9
    · have kI : (k : Int) < (n9 : Int) := by omega
      have k0 : (0 : Int) ≤ (k : Int) := by omega
      have HKN : Hid (k + 1 ≤ nN V (Sn : Int)) := Lib.hid (by rw [HN9.out]; exact hkn)
      go_wp2_with fail
      refine (makeNode_at (x := k + 1) (by push_cast; rfl) HS.out.e (by omega) HKN.out HD.out HDL.out HS.out.be HKP.out.1 HKP.out.2 (by omega)).mono ?_; rintro e w9 ⟨rfl, E9, O9⟩
      have H9 := Lib.hid (HS.out.only E9 O9)
      clear HS E9 O9 y0 y1 y2 y3 y4 y5 tlt
      go_wp2_with fail
      go_round
      case rel => exact ⟨k + 1, HKN.out, by go_num, H9.out⟩
      case measure => simp [intOf]; omega
    · have ek : k = n9 := by omega
      subst ek
      have kI : ¬ (k : Int) < (k : Int) := by omega
      go_wp2_with fail
      go_ret2
      refine ⟨p, gb, cellsN V (Sn : Int) (t : Int), rfl, ?_, HKP.out.1, HKP.out.2, HS.out.be⟩
      rw [HN9.out]
      exact HS.out.e.more (by omega)
/-- A lay that isn't right is refused. -/
theorem new_range {dv : Value} (h : rtB V S T = false) : Calls Try.prog 21 #[vL V S T, dv] w fun e w' => e = .returned (.tuple #[.pointer none, .int .i64 11]) ∧ Below w.heap.size w w' := by
  have HB : Hid (Below w.heap.size w (w.alloc (.cells #[.int .i64 V, .int .i64 S, .int .i64 T] 23))) := Lib.hid ((Below.refl _ _).alloc (Nat.le_refl _) _)
  have HY := Lib.hid h
  clear h
  go_enter Try.func21, Try.ntmps21
  go_wp2_with fail
  refine (right_any _ _ _ _).mono ?_; rintro e w1 ⟨rfl, hb1⟩; rw [HY.out]
  have HB1 := Lib.hid (HB.out.trans (hb1.mono HB.out.size))
  clear hb1
  go_wp2_with fail
  go_ret2
  exact ⟨rfl, HB1.out⟩
/-- Too many draws are refused. -/
theorem new_many (hR : Rt V S T) (h : 256 < dl) : Calls Try.prog 21 #[vL V S T, .slice da dl dc] w fun e w' => e = .returned (.tuple #[.pointer none, .int .i64 12]) ∧ Below w.heap.size w w' := by
  have HB : Hid (Below w.heap.size w (w.alloc (.cells #[.int .i64 V, .int .i64 S, .int .i64 T] 23))) := Lib.hid ((Below.refl _ _).alloc (Nat.le_refl _) _)
  have HY := Lib.hid hR.yes
  have hI : (256 : Int) < (dl : Int) := by omega
  clear h hR
  go_enter Try.func21, Try.ntmps21
  go_wp2_with fail
  refine (right_any _ _ _ _).mono ?_; rintro e w1 ⟨rfl, hb1⟩; rw [HY.out]
  have HB1 := Lib.hid (HB.out.trans (hb1.mono HB.out.size))
  clear hb1
  go_wp2_with fail
  go_ret2
  exact ⟨rfl, HB1.out⟩
end

end Go.Proofs.Ytaooglagddphnaa
