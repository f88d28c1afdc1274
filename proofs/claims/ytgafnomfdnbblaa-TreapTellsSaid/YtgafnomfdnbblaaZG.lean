/- What the law looks at; its calls on a play. -/
import Derived.Test.YtgafnomfdnbblaaZF
import Derived.Test.YtgafnomfdnbblaaZB
import Derived.Laws.AppendOwnNone
import Derived.Maps.AppendAt
import Derived.BigQuiet
import Derived.Deep.CutRange

/- The law's own look at memory: Field, Load; contract of parent. -/
namespace Go.Proofs.Ytgafnomfdnbblaa
open Go.RowKit

set_option maxRecDepth 100000

section
variable {w w' W : World} {V S T : Int} {q p gb cap m pb mb vb cp cm cv n x k : Nat} {g : Mg9} {vr : Value}
/-- A play's variable, by its parts. -/
def PF (W : World) (q : Nat) (V S T : Int) (p n pb cp mb cm vb cv : Nat) (vr : Value) : Prop := Blk W q 49 #[.int .i64 V, .int .i64 S, .int .i64 T, .pointer (some ⟨p, 0, none⟩), .int .i64 V, .int .i64 S, .int .i64 T, .iface 71 (pmV p), .int .i64 1, .int .i64 0, vr, .slice (some ⟨pb, 0, none⟩) (n + 1) cp, .slice (some ⟨mb, 0, none⟩) (n + 1) cm, .slice (some ⟨vb, 0, none⟩) (n + 1) cv]
theorem PF.lt (h : PF w q V S T p n pb cp mb cm vb cv vr) : q < w.heap.size := Blk.lt h
theorem PF.below (h : PF w q V S T p n pb cp mb cm vb cv vr) (hb : Below w.heap.size w w') : PF w' q V S T p n pb cp mb cm vb cv vr := Blk.below h hb (Blk.lt h)
theorem PF.drew (h : PF w q V S T p n pb cp mb cm vb cv vr) : PF w.drew q V S T p n pb cp mb cm vb cv vr := h
theorem PF.alloc (h : PF w q V S T p n pb cp mb cm vb cv vr) (o : Obj) : PF (w.alloc o) q V S T p n pb cp mb cm vb cv vr := Blk.alloc h o
theorem PF.only (h : PF w q V S T p n pb cp mb cm vb cv vr) (A : TM w V S T p gb cap m g) (ho : Only p gb w w') : PF w' q V S T p n pb cp mb cm vb cv vr := Blk.treap h A ho (by decide) (by decide)
theorem PF.cells (h : PF W q V S T p n pb cp mb cm vb cv vr) : W.cell? ⟨q, 0, none⟩ = some (.int .i64 V) ∧ W.cell? ⟨q, 1, none⟩ = some (.int .i64 S) ∧ W.cell? ⟨q, 2, none⟩ = some (.int .i64 T) ∧ W.cell? ⟨q, 3, none⟩ = some (.pointer (some ⟨p, 0, none⟩)) ∧ W.cell? ⟨q, 4, none⟩ = some (.int .i64 V) ∧ W.cell? ⟨q, 5, none⟩ = some (.int .i64 S) ∧ W.cell? ⟨q, 6, none⟩ = some (.int .i64 T) ∧ W.cell? ⟨q, 7, none⟩ = some (.iface 71 (pmV p)) ∧ W.cell? ⟨q, 8, none⟩ = some (.int .i64 1) ∧ W.cell? ⟨q, 9, none⟩ = some (.int .i64 0) ∧ W.cell? ⟨q, 10, none⟩ = some vr ∧ W.cell? ⟨q, 11, none⟩ = some (.slice (some ⟨pb, 0, none⟩) (n + 1) cp) ∧ W.cell? ⟨q, 12, none⟩ = some (.slice (some ⟨mb, 0, none⟩) (n + 1) cm) ∧ W.cell? ⟨q, 13, none⟩ = some (.slice (some ⟨vb, 0, none⟩) (n + 1) cv) :=
  ⟨Blk.cell h 0, Blk.cell h 1, Blk.cell h 2, Blk.cell h 3, Blk.cell h 4, Blk.cell h 5, Blk.cell h 6, Blk.cell h 7, Blk.cell h 8, Blk.cell h 9, Blk.cell h 10, Blk.cell h 11, Blk.cell h 12, Blk.cell h 13⟩
theorem pf_rule (q : Nat) (V S T : Int) (p n pb cp mb cm vb cv : Nat) (vr : Value) : ∀ W : World, PF W q V S T p n pb cp mb cm vb cv vr → W.cell? ⟨q, 0, none⟩ = some (.int .i64 V) ∧ W.cell? ⟨q, 1, none⟩ = some (.int .i64 S) ∧ W.cell? ⟨q, 2, none⟩ = some (.int .i64 T) ∧ W.cell? ⟨q, 3, none⟩ = some (.pointer (some ⟨p, 0, none⟩)) ∧ W.cell? ⟨q, 4, none⟩ = some (.int .i64 V) ∧ W.cell? ⟨q, 5, none⟩ = some (.int .i64 S) ∧ W.cell? ⟨q, 6, none⟩ = some (.int .i64 T) ∧ W.cell? ⟨q, 7, none⟩ = some (.iface 71 (pmV p)) ∧ W.cell? ⟨q, 8, none⟩ = some (.int .i64 1) ∧ W.cell? ⟨q, 9, none⟩ = some (.int .i64 0) ∧ W.cell? ⟨q, 10, none⟩ = some vr ∧ W.cell? ⟨q, 11, none⟩ = some (.slice (some ⟨pb, 0, none⟩) (n + 1) cp) ∧ W.cell? ⟨q, 12, none⟩ = some (.slice (some ⟨mb, 0, none⟩) (n + 1) cm) ∧ W.cell? ⟨q, 13, none⟩ = some (.slice (some ⟨vb, 0, none⟩) (n + 1) cv) := fun _ h => h.cells

theorem lfield (hR : Rt V S T) {kI : Int} (hk : kI = (k : Int)) (h1 : 1 ≤ x) (h2 : x ≤ nN V S) (h3 : k < 7) (w : World) :
    Calls Try.prog 33 #[vL V S T, .int .i64 (x : Int), .int .i64 kI] w fun e w' => e = .returned (.int .i64 (cN V S T x k : Int)) ∧ Below w.heap.size w w' := by
  subst hk
  have hn := nN_le hR
  rw [← field_cN hR h1 h2 h3]
  exact field_yes V S T (x : Int) (k : Int) hR (by omega) (by omega) w
theorem lfield2 (hR : Rt V S T) (h1 : 1 ≤ x) (h2 : x ≤ nN V S) (w : World) :
    Calls Try.prog 33 #[vL V S T, .int .i64 (x : Int), .int .i64 2] w fun e w' => e = .returned (.int .i64 (cN V S T x 2 : Int)) ∧ Below w.heap.size w w' := lfield hR kI2 h1 h2 (by omega) w
theorem lfield3 (hR : Rt V S T) (h1 : 1 ≤ x) (h2 : x ≤ nN V S) (w : World) :
    Calls Try.prog 33 #[vL V S T, .int .i64 (x : Int), .int .i64 3] w fun e w' => e = .returned (.int .i64 (cN V S T x 3 : Int)) ∧ Below w.heap.size w w' := lfield hR kI3 h1 h2 (by omega) w
theorem lfield4 (hR : Rt V S T) (h1 : 1 ≤ x) (h2 : x ≤ nN V S) (w : World) :
    Calls Try.prog 33 #[vL V S T, .int .i64 (x : Int), .int .i64 4] w fun e w' => e = .returned (.int .i64 (cN V S T x 4 : Int)) ∧ Below w.heap.size w w' := lfield hR kI4 h1 h2 (by omega) w
theorem lfield5 (hR : Rt V S T) (h1 : 1 ≤ x) (h2 : x ≤ nN V S) (w : World) :
    Calls Try.prog 33 #[vL V S T, .int .i64 (x : Int), .int .i64 5] w fun e w' => e = .returned (.int .i64 (cN V S T x 5 : Int)) ∧ Below w.heap.size w w' := lfield hR kI5 h1 h2 (by omega) w
theorem lfield6 (hR : Rt V S T) (h1 : 1 ≤ x) (h2 : x ≤ nN V S) (w : World) :
    Calls Try.prog 33 #[vL V S T, .int .i64 (x : Int), .int .i64 6] w fun e w' => e = .returned (.int .i64 (cN V S T x 6 : Int)) ∧ Below w.heap.size w w' := lfield hR kI6 h1 h2 (by omega) w

/-- A cell of a node, loaded by the law. -/
theorem lload (A : TM w V S T p gb cap m g) (h1 : 1 ≤ x) (h2 : x ≤ nN V S) (h3 : 3 ≤ k ∧ k ≤ 6) (hm : m ≤ 1000000) :
    Calls Try.prog 35 #[.pointer (some ⟨p, 0, none⟩), .int .i64 (cN V S T x k : Int)] w (Did V S T p gb cap (m + 1) g (.tuple #[.int .u64 (g x k : Int), .int .i64 0]) w) := by
  obtain ⟨c, f, Aa, C, r⟩ := A.ar
  refine (load_yes Aa (cN_lt A.hR h1 h2 (by omega)) C hm).mono ?_
  rintro e w' ⟨rfl, A1, O1⟩
  rw [r.c x k h1 h2 h3.1 h3.2]
  exact ⟨rfl, ⟨A.hR, _, _, A1, C.upd 0, r⟩, O1⟩
/-- .. its parent's cell. -/
theorem lload2 (A : TM w V S T p gb cap m g) (h1 : 1 ≤ x) (h2 : x ≤ nN V S) (hm : m ≤ 1000000) :
    Calls Try.prog 35 #[.pointer (some ⟨p, 0, none⟩), .int .i64 (cN V S T x 2 : Int)] w fun e w' => ∃ v : Int, (0 ≤ v ∧ v ≤ 18446744073709551615 ∧ (isP V x = false → v = (g x 2 : Int)) ∧ (isP V x = true → v % 65536 = (g x 2 : Int))) ∧ Did V S T p gb cap (m + 1) g (.tuple #[.int .u64 v, .int .i64 0]) w e w' := by
  obtain ⟨c, f, Aa, C, r⟩ := A.ar
  have hl := cN_lt A.hR h1 h2 (k := 2) (by omega)
  refine (load_yes Aa hl C hm).mono ?_
  rintro e w' ⟨rfl, A1, O1⟩
  have hf := Aa.fit _ hl
  refine ⟨_, ⟨hf.1, by omega, r.a x h1 h2, fun hp => ?_⟩, rfl, ⟨A.hR, _, _, A1, C.upd 0, r⟩, O1⟩
  have := r.p x h1 h2 hp
  rw [← this.2]; unfold rN; rw [if_pos this.1]

theorem rw_field1 (o n th tg : Int) (W : World) : (Instr.field 113 (.agg #[.int .i64 o, .int .i64 n, .int .i64 th, .int .i64 tg]) 1).run Try.prog W = .ok (.int .i64 n) W := by kernel_rfl
set_option maxHeartbeats 1000000 in
theorem lparent (hq : PF w q V S T p n pb cp mb cm vb cv vr) (A : TM w V S T p gb cap m g) (h1 : 1 ≤ x) (h2 : x ≤ nN V S) (hm : m ≤ 1000000) :
    Calls Try.prog 36 #[.pointer (some ⟨q, 0, none⟩), .int .i64 (x : Int)] w (Did V S T p gb cap (m + 1) g (.int .i64 (g x 2 : Int)) w) := by
  have HQ := Lib.hid hq
  have HA0 := Lib.hid A
  have HR := Lib.hid A.hR
  have H2 := Lib.hid h2
  have yI : ((g x 2 : Nat) : Int) ≤ 560 := by have := nN_le A.hR; have := (A.b h2).1; omega
  have htb := pf_rule q V S T p n pb cp mb cm vb cv vr
  obtain ⟨y0, y1, y2, y3, y4, y5, y6, y7, y8, y9, y10, y11, y12, y13⟩ := hq.cells
  have hlt := hq.lt
  have HO0 := Lib.hid (Only.refl p gb w)
  have HIP : Hid (isP V x = decide (lvN V x = 0)) := Lib.hid (by unfold isP; rw [decide_eq_decide]; omega)
  obtain ⟨y, hy⟩ : ∃ y, g x 2 = y := ⟨_, rfl⟩
  have HY := Lib.hid hy
  rw [hy] at yI
  rw [hy]
  clear hq A h2 hy
  go_enter Try.func36, Try.ntmps36
  go_wp2_with fail
  have HQd := Lib.hid HQ.out.drew
  have HAd := Lib.hid HA0.out.drew
  have HOd := Lib.hid HO0.out.drew
  go_region_held3 (fun W => PF W q V S T p n pb cp mb cm vb cv vr) (first | (with_reducible assumption) | (with_reducible exact PF.below (by assumption) hb1) | (with_reducible exact PF.only (by assumption) (Hid.out (by assumption : Hid (TM _ V S T p gb cap (m) g))) O2) | (with_reducible exact HQd.out))
    (first
      | (go_at_call 33; ((with_reducible refine (lfield2 HR.out h1 H2.out _).mono ?_); rintro e w' ⟨rfl, hb1⟩; have HAf := Lib.hid (TM.below (Hid.out (by assumption : Hid (TM _ V S T p gb cap m g))) hb1); have HOf := Lib.hid (Only.trans (Hid.out (by assumption : Hid (Only p gb w _))) (Only.of_below hb1)); have HQf := Lib.hid (HQd.out.below hb1)))
      | (go_at_call 35; ((with_reducible refine (lload2 (Hid.out (by assumption : Hid (TM _ V S T p gb cap (m) g))) h1 H2.out hm).mono ?_); rintro e w2 ⟨v, hv, rfl, A2, O2⟩; have HA2 := Lib.hid A2; have HO2 := Lib.hid (Only.trans (Hid.out (by assumption : Hid (Only p gb w _))) O2); have HV := Lib.hid hv; have HQ2 := Lib.hid (HQf.out.only (Hid.out (by assumption : Hid (TM _ V S T p gb cap (m) g))) O2))))
  all_goals
    clear y0 y1 y2 y3 y4 y5 y6 y7 y8 y9 y10 y11 y12 y13 hlt
    obtain ⟨y0, y1, y2, _⟩ := HQ2.out.cells
    have hlt := HQ2.out.lt
    have v1 : 0 ≤ v := HV.out.1
    have v2 : v ≤ 18446744073709551615 := HV.out.2.1
    go_wp2_with fail
    refine (node_is HR.out h1 H2.out _).mono ?_; rintro e w3 ⟨⟨z1, z2, z3, rfl⟩, hb3⟩
    have HA3 := Lib.hid (HA2.out.below hb3)
    have HO3 := Lib.hid (HO2.out.trans (Only.of_below hb3))
    clear hb3 y0 y1 y2 hlt
    by_cases hl : lvN V x = 0
    · have hp : isP V x = true := by rw [HIP.out]; exact decide_eq_true hl
      have e1 : v % 65536 = (y : Int) := by rw [HV.out.2.2.2 hp, HY.out]
      have HE := Lib.hid e1
      have hlb : (lvN V x == 0) = true := by rw [hl]; rfl
      clear hp e1
      go_wp2_with fail
      refine (rparts_any v _ v1 v2).mono ?_; rintro e w4 ⟨rfl, hb4⟩
      rw [HE.out]
      have HA4 := Lib.hid ((HA3.out.alloc _).below hb4)
      have HO4 := Lib.hid ((HO3.out.alloc _).trans (Only.of_below hb4))
      clear hb4
      have fl := rw_field1 (v / 65536 % 65536) (y : Int) (v / 4294967296 % 256) (v / 1099511627776)
      go_wp2_with fail
      go_ret
      exact ⟨rfl, HA4.out, HO4.out⟩
    · have hp : isP V x = false := by rw [HIP.out]; exact decide_eq_false hl
      have e1 : v = (y : Int) := by rw [HV.out.2.2.1 hp, HY.out]
      have hlb : (lvN V x == 0) = false := beq_eq_false_iff_ne.2 hl
      have hw : IntKind.i64.wrap (y : Int) = (y : Int) := IntWalk.i64_in _ (by omega)
      clear HV
      subst e1
      clear hp v1 v2
      go_wp2_with fail
      go_ret
      exact ⟨rfl, HA3.out.alloc _, HO3.out.alloc _⟩
end

end Go.Proofs.Ytgafnomfdnbblaa

/- Contract of the law's is. Printed by wip/tools/trqb.py. -/
namespace Go.Proofs.Ytgafnomfdnbblaa
open Go.RowKit

set_option maxRecDepth 100000

/-- A play's variable, beside a node's copy. -/
structure PN (W : World) (q : Nat) (V S T : Int) (p n pb cp mb cm vb cv : Nat) (vr : Value) (nb a b c d e f h : Nat) : Prop where
  p : PF W q V S T p n pb cp mb cm vb cv vr
  n : NB W nb a b c d e f h
section
variable {w w' W w0 : World} {V S T : Int} {q p gb cap m pb mb vb cp cm cv n x k nb a b c d e f h : Nat} {g : Mg9} {vr : Value}
theorem PN.below (H : PN w q V S T p n pb cp mb cm vb cv vr nb a b c d e f h) (hb : Below w.heap.size w w') : PN w' q V S T p n pb cp mb cm vb cv vr nb a b c d e f h := ⟨H.p.below hb, Blk.below H.n hb (Blk.lt H.n)⟩
theorem PN.drew (H : PN w q V S T p n pb cp mb cm vb cv vr nb a b c d e f h) : PN w.drew q V S T p n pb cp mb cm vb cv vr nb a b c d e f h := ⟨H.p, H.n⟩
theorem PN.only (H : PN w q V S T p n pb cp mb cm vb cv vr nb a b c d e f h) (A : TM w V S T p gb cap m g) (ho : Only p gb w w') : PN w' q V S T p n pb cp mb cm vb cv vr nb a b c d e f h := ⟨H.p.only A ho, Blk.treap H.n A ho (by decide) (by decide)⟩
theorem pn_rule (q : Nat) (V S T : Int) (p n pb cp mb cm vb cv : Nat) (vr : Value) (nb a b c d e f h : Nat) : ∀ W : World, PN W q V S T p n pb cp mb cm vb cv vr nb a b c d e f h → W.cell? ⟨q, 0, none⟩ = some (.int .i64 V) ∧ W.cell? ⟨q, 1, none⟩ = some (.int .i64 S) ∧ W.cell? ⟨q, 2, none⟩ = some (.int .i64 T) ∧ W.cell? ⟨q, 3, none⟩ = some (.pointer (some ⟨p, 0, none⟩)) ∧ W.cell? ⟨nb, 0, none⟩ = some (.int .i64 (a : Int)) ∧ W.cell? ⟨nb, 1, none⟩ = some (.int .i64 (b : Int)) ∧ W.cell? ⟨nb, 2, none⟩ = some (.int .i64 (c : Int)) ∧ W.cell? ⟨nb, 3, none⟩ = some (.int .i64 (d : Int)) ∧ W.cell? ⟨nb, 4, none⟩ = some (.int .i64 (e : Int)) ∧ W.cell? ⟨nb, 5, none⟩ = some (.int .i64 (f : Int)) ∧ W.cell? ⟨nb, 6, none⟩ = some (.int .i64 (h : Int)) := fun W H => by
  obtain ⟨y0, y1, y2, y3, _⟩ := H.p.cells
  exact ⟨y0, y1, y2, y3, Blk.cell H.n 0, Blk.cell H.n 1, Blk.cell H.n 2, Blk.cell H.n 3, Blk.cell H.n 4, Blk.cell H.n 5, Blk.cell H.n 6⟩
theorem OB.onlyT {ob : Nat} {rc : Rec7} (H : OB w ob n rc) (A : TM w V S T p gb cap m g) (ho : Only p gb w w') : OB w' ob n rc := by
  obtain ⟨zs, hz, e1, e2⟩ := H
  exact ⟨zs, hz.treap A ho (by decide) (by decide), e1, e2⟩
theorem lload3_ (A : TM w V S T p gb cap m g) (h1 : 1 ≤ x) (h2 : x ≤ nN V S) (hm : m ≤ 1000000) :
    Calls Try.prog 35 #[.pointer (some ⟨p, 0, none⟩), .int .i64 (cN V S T x 3 : Int)] w (Did V S T p gb cap (m + 1) g (.tuple #[.int .u64 (g x 3 : Int), .int .i64 0]) w) := lload A h1 h2 ⟨by omega, by omega⟩ hm
theorem lload4_ (A : TM w V S T p gb cap m g) (h1 : 1 ≤ x) (h2 : x ≤ nN V S) (hm : m ≤ 1000000) :
    Calls Try.prog 35 #[.pointer (some ⟨p, 0, none⟩), .int .i64 (cN V S T x 4 : Int)] w (Did V S T p gb cap (m + 1) g (.tuple #[.int .u64 (g x 4 : Int), .int .i64 0]) w) := lload A h1 h2 ⟨by omega, by omega⟩ hm
theorem lload6_ (A : TM w V S T p gb cap m g) (h1 : 1 ≤ x) (h2 : x ≤ nN V S) (hm : m ≤ 1000000) :
    Calls Try.prog 35 #[.pointer (some ⟨p, 0, none⟩), .int .i64 (cN V S T x 6 : Int)] w (Did V S T p gb cap (m + 1) g (.tuple #[.int .u64 (g x 6 : Int), .int .i64 0]) w) := lload A h1 h2 ⟨by omega, by omega⟩ hm

def IsRel (w0 : World) (q : Nat) (V S T : Int) (p gb cap pb mb vb cp cm cv m : Nat) (g : Mg9) (vr : Value) (ob : Nat) (rc : Rec7) (i : Value) (W : World) : Prop :=
  ∃ k, k ≤ nN V S + 1 ∧ i = .int .i64 ((k : Nat) : Int) ∧ PF W q V S T p (nN V S) pb cp mb cm vb cv vr ∧ TM W V S T p gb cap (m + 4 * k) g ∧ OB W ob (nN V S) rc ∧ Only p gb w0 W

set_option maxHeartbeats 4000000 in
theorem is_any {K : PK9} {mk : Nat → Nat} {ts : List Tp} {vs : List Value} (h : PlayM w K m g mk ts vr vs) (hF : FI K.V K.S g mk ts) (hm : m ≤ 990000) :
    Calls Try.prog 11 #[.pointer (some ⟨K.q, 0, none⟩)] w fun e w' => e = .returned (.bool true) ∧ PlayM w' K (m + 4 * (K.n + 1)) g mk ts vr vs ∧ Only K.p K.gb w w' := by
  obtain ⟨V, S, T, q, p, gb, cap, pb, mb, vb, cp, cm, cv, base⟩ := K
  have HP := Lib.hid h
  have HQ : Hid (PF w q V S T p (nN V S) pb cp mb cm vb cv vr) := Lib.hid h.blk
  have HA0 : Hid (TM w V S T p gb cap m g) := Lib.hid h.tm
  have HR := Lib.hid HA0.out.hR
  have hn560 := nN_le HR.out
  have HFS : Hid (FS w pb mb vb (nN V S) (fun z => g z 5) mk (vx0 V)) := Lib.hid h.fs
  have HRV : Hid (RowV w base vr vs) := Lib.hid h.rv
  have HRO : Hid (RowsOk w mb vs ts) := Lib.hid h.ro
  have hts : Hid (ts.length ≤ 100000) := Lib.hid (by have := hF.len; change _ ≤ nN V S at this; omega)
  have HT : Hid (∀ t ∈ ts, Hp (fun z => g z 5) t ∧ (∀ y ∈ t.row, y ≤ nN V S) ∧ t.row.length ≤ 100000) := Lib.hid fun t ht => ⟨(hF.st t ht).2.1, fun y hy => (hF.nodes ht y hy).2, by have := hF.size ht; change _ ≤ nN V S at this; unfold Tp.size at this; omega⟩
  have HMK := Lib.hid hF.hm
  obtain ⟨rc, hrc⟩ : ∃ rc, recF (vx0 V) mk ts (fun _ _ => 0) = rc := ⟨_, rfl⟩
  have HN : Hid (∀ k, 1 ≤ k → k ≤ nN V S → NodeIs g rc k) := Lib.hid fun k h1 h2 => by
    obtain ⟨t, ht, hk⟩ := (hF.al k).1 ⟨by omega, h2⟩
    rw [← hrc]
    exact recF_is hF.hm (fun t ht => ⟨⟨(hF.st t ht).1.1.vx fun y hy => vx0_eq (hF.nodes ht y hy).1, (hF.st t ht).1.2⟩, by have := hF.size ht; change _ ≤ nN V S at this; omega, fun y hy => (hF.nodes ht y hy).1⟩) hF.nd t ht k hk
  have HRC := Lib.hid hrc
  have hmI := Lib.hid hm
  clear h hF hm hrc
  obtain ⟨y0, y1, y2, y3, y4, y5, y6, y7, y8, y9, y10, y11, y12, y13⟩ := HQ.out.cells
  have hlt := HQ.out.lt
  go_enter Try.func11, Try.ntmps11
  go_wp2_with fail
  refine (nodesF_any HMK.out HFS.out HRV.out HRO.out HT.out (by omega) hts.out).mono ?_
  rintro e w1 ⟨ob, co, rfl, hob, hO, hb1⟩
  rw [HRC.out] at hO
  have HRel : Hid (IsRel w q V S T p gb cap pb mb vb cp cm cv m g vr ob rc (.int .i64 0) w1) := Lib.hid ⟨0, by omega, rfl, HQ.out.below hb1, HA0.out.below hb1, hO, Only.of_below hb1⟩
  clear hb1 hO hob HFS HRV HRO HT HMK HRC hts y0 y1 y2 y3 y4 y5 y6 y7 y8 y9 y10 y11 y12 y13 hlt HA0 HQ
  have hw0 : Hid (w = w) := Lib.hid rfl
  go_wp2_with fail
  go_loopw [17] (fun i wr => IsRel w q V S T p gb cap pb mb vb cp cm cv m g vr ob rc i wr) (fun i _ => nN V S + 1 - (intOf i).toNat)
  case atStart => exact HRel.out
  case round =>
    clear HRel
    obtain ⟨k, hk, rfl, hQ, hA, hO, hOn⟩ := hrel
    have HQ := Lib.hid hQ
    have HA := Lib.hid hA
    have HO := Lib.hid hO
    have HON := Lib.hid hOn
    clear hQ hA hO hOn
    by_cases hkl : k < nN V S + 1
    · obtain ⟨zs, hz, hzs, hcs⟩ := HO.out
      have hkI : (k : Int) < (nN V S : Int) + 1 := by omega
      have c0 := (hz.cell (k * 7)).trans (hcs k 0 (by omega) (by omega))
      have c1 := (hz.cell (k * 7 + 1)).trans (hcs k 1 (by omega) (by omega))
      have c2 := (hz.cell (k * 7 + 2)).trans (hcs k 2 (by omega) (by omega))
      have c3 := (hz.cell (k * 7 + 3)).trans (hcs k 3 (by omega) (by omega))
      have c4 := (hz.cell (k * 7 + 4)).trans (hcs k 4 (by omega) (by omega))
      have c5 := (hz.cell (k * 7 + 5)).trans (hcs k 5 (by omega) (by omega))
      have c6 := (hz.cell (k * 7 + 6)).trans (hcs k 6 (by omega) (by omega))
      have oblt := hz.lt
      clear hz hzs hcs
      by_cases hk0 : k = 0
      · subst hk0
        go_wp2_with fail
        go_roundw
        case rel => exact ⟨1, by omega, by simp, HQ.out.alloc _, (HA.out.alloc _).more (by omega), HO.out.below ((Below.refl _ _).alloc (Nat.le_refl _) _), HON.out.alloc _⟩
        case measure => simp [intOf] <;> omega
      · have hk1 : 1 ≤ k := by omega
        have HKN : Hid (k ≤ nN V S) := Lib.hid (by omega)
        have hkb : ((k : Int) == 0) = false := beq_eq_false_iff_ne.2 (by omega)
        obtain ⟨n0, n1, n2, n6, m3, m4, m5, m6⟩ := HN.out k hk1 HKN.out
        rw [← n0] at c0
        rw [← n1] at c1
        rw [← n2] at c2
        have hbd := HA.out.b (x := k) (by omega)
        have hwL : IntKind.i64.wrap ((g k 3 : Nat) : Int) = ((g k 3 : Nat) : Int) := IntWalk.i64_in _ (by omega)
        have hwR : IntKind.i64.wrap ((g k 4 : Nat) : Int) = ((g k 4 : Nat) : Int) := IntWalk.i64_in _ (by omega)
        obtain ⟨r3, e3⟩ : ∃ r, rc k 3 = r := ⟨_, rfl⟩
        obtain ⟨r4, e4⟩ : ∃ r, rc k 4 = r := ⟨_, rfl⟩
        obtain ⟨r5, e5⟩ : ∃ r, rc k 5 = r := ⟨_, rfl⟩
        obtain ⟨r6, e6⟩ : ∃ r, rc k 6 = r := ⟨_, rfl⟩
        rw [e3] at c3 n6 m3
        rw [e4] at c4 n6 m4
        rw [e5] at c5 n6 m5
        rw [e6] at c6 n6 m6
        have N6 := Lib.hid n6
        have M3 := Lib.hid m3
        have M4 := Lib.hid m4
        have M5 := Lib.hid m5
        have M6 := Lib.hid m6
        have HM0 : Hid (m + 4 * k ≤ 1000000) := Lib.hid (by have := hmI.out; omega)
        have HM1 : Hid (m + 4 * k + 1 ≤ 1000000) := Lib.hid (by have := hmI.out; omega)
        have HM2 : Hid (m + 4 * k + 1 + 1 ≤ 1000000) := Lib.hid (by have := hmI.out; omega)
        have HM3 : Hid (m + 4 * k + 1 + 1 + 1 ≤ 1000000) := Lib.hid (by have := hmI.out; omega)
        clear n0 n1 n2 n6 m3 m4 m5 m6 e3 e4 e5 e6 hbd hk0
        go_wp2_with fail
        have HX : Hid (OB (wr.alloc (.cells #[.int .i64 (g k 2 : Int), .int .i64 (g k 3 : Int), .int .i64 (g k 4 : Int), .int .i64 (r3 : Int), .int .i64 (r4 : Int), .int .i64 (r5 : Int), .int .i64 (r6 : Int)] 56)) ob (nN V S) rc) := Lib.hid (HO.out.below ((Below.refl _ _).alloc (Nat.le_refl _) _))
        have HAa := Lib.hid (HA.out.alloc (.cells #[.int .i64 (g k 2 : Int), .int .i64 (g k 3 : Int), .int .i64 (g k 4 : Int), .int .i64 (r3 : Int), .int .i64 (r4 : Int), .int .i64 (r5 : Int), .int .i64 (r6 : Int)] 56))
        have HOa := Lib.hid (HON.out.alloc (.cells #[.int .i64 (g k 2 : Int), .int .i64 (g k 3 : Int), .int .i64 (g k 4 : Int), .int .i64 (r3 : Int), .int .i64 (r4 : Int), .int .i64 (r5 : Int), .int .i64 (r6 : Int)] 56))
        have HPN : Hid (PN (wr.alloc (.cells #[.int .i64 (g k 2 : Int), .int .i64 (g k 3 : Int), .int .i64 (g k 4 : Int), .int .i64 (r3 : Int), .int .i64 (r4 : Int), .int .i64 (r5 : Int), .int .i64 (r6 : Int)] 56)) q V S T p (nN V S) pb cp mb cm vb cv vr wr.heap.size (g k 2) (g k 3) (g k 4) r3 r4 r5 r6) := Lib.hid ⟨HQ.out.alloc _, Blk.new _ _ _⟩
        generalize wr.heap.size = nb at HPN ⊢
        generalize wr.alloc (.cells #[.int .i64 (g k 2 : Int), .int .i64 (g k 3 : Int), .int .i64 (g k 4 : Int), .int .i64 (r3 : Int), .int .i64 (r4 : Int), .int .i64 (r5 : Int), .int .i64 (r6 : Int)] 56) = W0 at HX HAa HOa HPN ⊢
        clear HQ HA HO HON c0 c1 c2 c3 c4 c5 c6 oblt
        have hpn := pn_rule q V S T p (nN V S) pb cp mb cm vb cv vr nb (g k 2) (g k 3) (g k 4) r3 r4 r5 r6
        have HQd := Lib.hid HPN.out.drew
        have HXd := Lib.hid HX.out.drew
        have HAd := Lib.hid HAa.out.drew
        have HOd := Lib.hid HOa.out.drew
        clear HPN HX HAa HOa
        obtain ⟨y0, y1, y2, y3, y4, y5, y6, y7, y8, y9, y10⟩ := hpn _ HQd.out
        have hlt := HQd.out.p.lt
        have hlt2 := Blk.lt HQd.out.n
        go_region_held3 (fun W => PN W q V S T p (nN V S) pb cp mb cm vb cv vr nb (g k 2) (g k 3) (g k 4) r3 r4 r5 r6) (first | (with_reducible assumption) | (with_reducible exact PN.below (by assumption) hb1) | (with_reducible exact PN.only (by assumption) (Hid.out (by assumption : Hid (TM _ V S T p gb cap (m + 4 * k) g))) O2) | (with_reducible exact HQd.out))
          (first
            | (go_at_call 33; ((with_reducible refine (lfield3 HR.out hk1 HKN.out _).mono ?_); rintro e w' ⟨rfl, hb1⟩; have HAf := Lib.hid (TM.below (Hid.out (by assumption : Hid (TM _ V S T p gb cap (m + 4 * k) g))) hb1); have HOf := Lib.hid (Only.trans (Hid.out (by assumption : Hid (Only p gb w _))) (Only.of_below hb1)); have HQf := Lib.hid (HQd.out.below hb1); have HXf := Lib.hid (HXd.out.below hb1)))
            | (go_at_call 35; ((with_reducible refine (lload3_ (Hid.out (by assumption : Hid (TM _ V S T p gb cap (m + 4 * k) g))) hk1 HKN.out HM0.out).mono ?_); rintro e w2 ⟨rfl, A2, O2⟩; have HAa := Lib.hid A2; have HOa := Lib.hid (Only.trans (Hid.out (by assumption : Hid (Only p gb w _))) O2); have HPN := Lib.hid (HQf.out.only (Hid.out (by assumption : Hid (TM _ V S T p gb cap (m + 4 * k) g))) O2); have HX := Lib.hid (HXf.out.onlyT (Hid.out (by assumption : Hid (TM _ V S T p gb cap (m + 4 * k) g))) O2))))
        clear y0 y1 y2 y3 y4 y5 y6 y7 y8 y9 y10 hlt hlt2 HQd HXd HAd HOd HAf HOf HQf HXf hb1 A2 O2
        have w9 : Hid True := Lib.hid trivial
        obtain ⟨y0, y1, y2, y3, y4, y5, y6, y7, y8, y9, y10⟩ := hpn _ HPN.out
        have hlt := HPN.out.p.lt
        have hlt2 := Blk.lt HPN.out.n
        go_wp2_with fail
        clear y0 y1 y2 y3 y4 y5 y6 y7 y8 y9 y10 hlt hlt2
        have HQd := Lib.hid HPN.out.drew
        have HXd := Lib.hid HX.out.drew
        have HAd := Lib.hid HAa.out.drew
        have HOd := Lib.hid HOa.out.drew
        clear HPN HX HAa HOa
        obtain ⟨y0, y1, y2, y3, y4, y5, y6, y7, y8, y9, y10⟩ := hpn _ HQd.out
        have hlt := HQd.out.p.lt
        have hlt2 := Blk.lt HQd.out.n
        go_region_held3 (fun W => PN W q V S T p (nN V S) pb cp mb cm vb cv vr nb (g k 2) (g k 3) (g k 4) r3 r4 r5 r6) (first | (with_reducible assumption) | (with_reducible exact PN.below (by assumption) hb1) | (with_reducible exact PN.only (by assumption) (Hid.out (by assumption : Hid (TM _ V S T p gb cap (m + 4 * k + 1) g))) O2) | (with_reducible exact HQd.out))
          (first
            | (go_at_call 33; ((with_reducible refine (lfield4 HR.out hk1 HKN.out _).mono ?_); rintro e w' ⟨rfl, hb1⟩; have HAf := Lib.hid (TM.below (Hid.out (by assumption : Hid (TM _ V S T p gb cap (m + 4 * k + 1) g))) hb1); have HOf := Lib.hid (Only.trans (Hid.out (by assumption : Hid (Only p gb w _))) (Only.of_below hb1)); have HQf := Lib.hid (HQd.out.below hb1); have HXf := Lib.hid (HXd.out.below hb1)))
            | (go_at_call 35; ((with_reducible refine (lload4_ (Hid.out (by assumption : Hid (TM _ V S T p gb cap (m + 4 * k + 1) g))) hk1 HKN.out HM1.out).mono ?_); rintro e w2 ⟨rfl, A2, O2⟩; have HAa := Lib.hid A2; have HOa := Lib.hid (Only.trans (Hid.out (by assumption : Hid (Only p gb w _))) O2); have HPN := Lib.hid (HQf.out.only (Hid.out (by assumption : Hid (TM _ V S T p gb cap (m + 4 * k + 1) g))) O2); have HX := Lib.hid (HXf.out.onlyT (Hid.out (by assumption : Hid (TM _ V S T p gb cap (m + 4 * k + 1) g))) O2))))
        clear y0 y1 y2 y3 y4 y5 y6 y7 y8 y9 y10 hlt hlt2 HQd HXd HAd HOd HAf HOf HQf HXf hb1 A2 O2
        have w9 : Hid True := Lib.hid trivial
        obtain ⟨y0, y1, y2, y3, y4, y5, y6, y7, y8, y9, y10⟩ := hpn _ HPN.out
        have hlt := HPN.out.p.lt
        have hlt2 := Blk.lt HPN.out.n
        go_wp2_with fail
        clear y0 y1 y2 y3 y4 y5 y6 y7 y8 y9 y10 hlt hlt2
        have HQd := Lib.hid HPN.out.drew
        have HXd := Lib.hid HX.out.drew
        have HAd := Lib.hid HAa.out.drew
        have HOd := Lib.hid HOa.out.drew
        clear HPN HX HAa HOa
        obtain ⟨y0, y1, y2, y3, y4, y5, y6, y7, y8, y9, y10⟩ := hpn _ HQd.out
        have hlt := HQd.out.p.lt
        have hlt2 := Blk.lt HQd.out.n
        go_region_held3 (fun W => PN W q V S T p (nN V S) pb cp mb cm vb cv vr nb (g k 2) (g k 3) (g k 4) r3 r4 r5 r6) (first | (with_reducible assumption) | (with_reducible exact PN.below (by assumption) hb1) | (with_reducible exact PN.only (by assumption) (Hid.out (by assumption : Hid (TM _ V S T p gb cap (m + 4 * k + 1 + 1) g))) O2) | (with_reducible exact HQd.out))
          (first
            | (go_at_call 33; ((with_reducible refine (lfield6 HR.out hk1 HKN.out _).mono ?_); rintro e w' ⟨rfl, hb1⟩; have HAf := Lib.hid (TM.below (Hid.out (by assumption : Hid (TM _ V S T p gb cap (m + 4 * k + 1 + 1) g))) hb1); have HOf := Lib.hid (Only.trans (Hid.out (by assumption : Hid (Only p gb w _))) (Only.of_below hb1)); have HQf := Lib.hid (HQd.out.below hb1); have HXf := Lib.hid (HXd.out.below hb1)))
            | (go_at_call 35; ((with_reducible refine (lload6_ (Hid.out (by assumption : Hid (TM _ V S T p gb cap (m + 4 * k + 1 + 1) g))) hk1 HKN.out HM2.out).mono ?_); rintro e w2 ⟨rfl, A2, O2⟩; have HAa := Lib.hid A2; have HOa := Lib.hid (Only.trans (Hid.out (by assumption : Hid (Only p gb w _))) O2); have HPN := Lib.hid (HQf.out.only (Hid.out (by assumption : Hid (TM _ V S T p gb cap (m + 4 * k + 1 + 1) g))) O2); have HX := Lib.hid (HXf.out.onlyT (Hid.out (by assumption : Hid (TM _ V S T p gb cap (m + 4 * k + 1 + 1) g))) O2))))
        clear y0 y1 y2 y3 y4 y5 y6 y7 y8 y9 y10 hlt hlt2 HQd HXd HAd HOd HAf HOf HQf HXf hb1 A2 O2
        have w9 : Hid True := Lib.hid trivial
        obtain ⟨y0, y1, y2, y3, y4, y5, y6, y7, y8, y9, y10⟩ := hpn _ HPN.out
        have hlt := HPN.out.p.lt
        have hlt2 := Blk.lt HPN.out.n
        go_wp2_with fail
        clear y0 y1 y2 y3 y4 y5 y6 y7 y8 y9 y10 hlt hlt2
        have HQd := Lib.hid HPN.out.drew
        have HXd := Lib.hid HX.out.drew
        have HAd := Lib.hid HAa.out.drew
        have HOd := Lib.hid HOa.out.drew
        clear HPN HX HAa HOa
        obtain ⟨y0, y1, y2, y3, y4, y5, y6, y7, y8, y9, y10⟩ := hpn _ HQd.out
        have hlt := HQd.out.p.lt
        have hlt2 := Blk.lt HQd.out.n
        have b2 : ((g k 2 : Int) != (g k 2 : Int)) = false := bne_self_eq_false _
        have b3 : ((g k 3 : Int) != (g k 3 : Int)) = false := bne_self_eq_false _
        have b4 : ((g k 4 : Int) != (g k 4 : Int)) = false := bne_self_eq_false _
        have b6 : ((g k 6 : Int) != (g k 6 : Int)) = false := bne_self_eq_false _
        go_region_held3 (fun W => PN W q V S T p (nN V S) pb cp mb cm vb cv vr nb (g k 2) (g k 3) (g k 4) r3 r4 r5 r6) (first | (with_reducible assumption) | (with_reducible exact PN.below (by assumption) hb1) | (with_reducible exact PN.only (by assumption) (Hid.out (by assumption : Hid (TM _ V S T p gb cap (m + 4 * k + 1 + 1 + 1) g))) O2) | (with_reducible exact HQd.out))
          (first
            | (go_at_call 36; ((with_reducible refine (lparent (Hid.out (by assumption : Hid (PN _ q V S T p (nN V S) pb cp mb cm vb cv vr nb (g k 2) (g k 3) (g k 4) r3 r4 r5 r6))).p (Hid.out (by assumption : Hid (TM _ V S T p gb cap (m + 4 * k + 1 + 1 + 1) g))) hk1 HKN.out HM3.out).mono ?_); rintro e w2 ⟨rfl, A2, O2⟩; have HAf := Lib.hid A2; have HOf := Lib.hid (Only.trans (Hid.out (by assumption : Hid (Only p gb w _))) O2); have HQf := Lib.hid ((Hid.out (by assumption : Hid (PN _ q V S T p (nN V S) pb cp mb cm vb cv vr nb (g k 2) (g k 3) (g k 4) r3 r4 r5 r6))).only (Hid.out (by assumption : Hid (TM _ V S T p gb cap (m + 4 * k + 1 + 1 + 1) g))) O2); have HXf := Lib.hid ((Hid.out (by assumption : Hid (OB _ ob (nN V S) rc))).onlyT (Hid.out (by assumption : Hid (TM _ V S T p gb cap (m + 4 * k + 1 + 1 + 1) g))) O2)))
            | (go_at_call 37; ((with_reducible refine (rsum_any M3.out M4.out M5.out M6.out _).mono ?_); rintro e w' ⟨rfl, hb1⟩; rw [← N6.out]; have HAs := Lib.hid ((Hid.out (by assumption : Hid (TM _ V S T p gb cap (m + 4 * k + 1 + 1 + 1 + 1) g))).below hb1); have HOs := Lib.hid (Only.trans (Hid.out (by assumption : Hid (Only p gb w _))) (Only.of_below hb1)); have HQs := Lib.hid ((Hid.out (by assumption : Hid (PN _ q V S T p (nN V S) pb cp mb cm vb cv vr nb (g k 2) (g k 3) (g k 4) r3 r4 r5 r6))).below hb1); have HXs := Lib.hid ((Hid.out (by assumption : Hid (OB _ ob (nN V S) rc))).below hb1)))
            | (go_at_call 37; ((with_reducible refine (rsum_any M3.out M4.out M5.out M6.out _).mono ?_); rintro e w' ⟨rfl, hb1⟩; rw [← N6.out]; have HAs := Lib.hid ((Hid.out (by assumption : Hid (TM _ V S T p gb cap (m + 4 * k + 1 + 1 + 1) g))).below hb1); have HOs := Lib.hid (Only.trans (Hid.out (by assumption : Hid (Only p gb w _))) (Only.of_below hb1)); have HQs := Lib.hid ((Hid.out (by assumption : Hid (PN _ q V S T p (nN V S) pb cp mb cm vb cv vr nb (g k 2) (g k 3) (g k 4) r3 r4 r5 r6))).below hb1); have HXs := Lib.hid ((Hid.out (by assumption : Hid (OB _ ob (nN V S) rc))).below hb1))))
        all_goals
          clear y0 y1 y2 y3 y4 y5 y6 y7 y8 y9 y10 hlt hlt2
          go_wp2_with fail
          go_roundw
          case rel => exact ⟨k + 1, by omega, by simp, PN.p (Hid.out (by assumption : Hid (PN _ q V S T p (nN V S) pb cp mb cm vb cv vr nb (g k 2) (g k 3) (g k 4) r3 r4 r5 r6))), TM.more (Hid.out (by assumption : Hid (TM _ V S T p gb cap (m + 4 * k + 1 + 1 + 1 + 1) g))) (by omega), Hid.out (by assumption : Hid (OB _ ob (nN V S) rc)), Hid.out (by assumption : Hid (Only p gb w _))⟩
          case measure => simp [intOf]; omega
    · have hk2 : k = nN V S + 1 := by omega
      have hI : ¬ (k : Int) < (nN V S : Int) + 1 := by omega
      go_wp2_with fail
      go_ret
      exact ⟨rfl, HP.out.step (HA.out.more (by rw [hk2]; exact Nat.le_refl _)) HON.out fun _ => rfl, HON.out⟩
end

end Go.Proofs.Ytgafnomfdnbblaa

/- What calls leave right, plainly: rows that are swapped for others, marks, chains of parents. -/
namespace Go.Proofs.Ytgafnomfdnbblaa

section
variable {α : Type}
theorem wo_out {i k : Nat} : ∀ {j : Nat} (l : List α), i < j → k < j → wo i k j l = l
  | _, [], _, _ => rfl
  | j, x :: l, h1, h2 => by
    simp only [wo]
    rw [if_pos ⟨by omega, by omega⟩, wo_out l (by omega) (by omega)]
theorem wo_left {i k : Nat} : ∀ {j : Nat} (l : List α), i < j → wo i k j l = wo k k j l
  | _, [], _ => rfl
  | j, x :: l, h1 => by
    simp only [wo]
    rw [wo_left l (by omega : i < j + 1)]
    by_cases h : j = k
    · rw [if_neg (by omega), if_neg (by omega)]
    · rw [if_pos ⟨by omega, h⟩, if_pos ⟨h, h⟩]
theorem wo_comm {i k : Nat} : ∀ {j : Nat} (l : List α), wo i k j l = wo k i j l
  | _, [] => rfl
  | j, x :: l => by
    simp only [wo]
    rw [wo_comm l]
    by_cases h : j ≠ i ∧ j ≠ k
    · rw [if_pos h, if_pos ⟨h.2, h.1⟩]
    · rw [if_neg h, if_neg fun e => h ⟨e.2, e.1⟩]
theorem wo_perm1 {i : Nat} {x : α} : ∀ {j : Nat} {l : List α}, j ≤ i → l[i - j]? = some x → l.Perm (x :: wo i i j l)
  | j, [], _, h => by simp at h
  | j, y :: l, h1, h => by
    by_cases e : i = j
    · subst e
      rw [Nat.sub_self] at h
      simp at h
      subst h
      simp only [wo]
      rw [if_neg (by omega), wo_out l (by omega) (by omega)]
    · rw [show i - j = (i - (j + 1)) + 1 by omega] at h
      have ih := wo_perm1 (i := i) (x := x) (j := j + 1) (l := l) (by omega) (by simpa using h)
      simp only [wo]
      rw [if_pos ⟨by omega, by omega⟩]
      exact (ih.cons y).trans (List.Perm.swap x y _)
theorem wo_perm2 {i k : Nat} (hik : i ≠ k) {x y : α} : ∀ {j : Nat} {l : List α}, j ≤ i → j ≤ k → l[i - j]? = some x → l[k - j]? = some y → l.Perm (x :: y :: wo i k j l)
  | j, [], _, _, h, _ => by simp at h
  | j, z :: l, h1, h2, h, h' => by
    by_cases e : i = j
    · subst e
      rw [Nat.sub_self] at h
      simp at h
      subst h
      rw [show k - i = (k - (i + 1)) + 1 by omega] at h'
      have := wo_perm1 (i := k) (x := y) (j := i + 1) (l := l) (by omega) (by simpa using h')
      simp only [wo]
      rw [if_neg (by omega), wo_left l (by omega)]
      exact this.cons z
    · by_cases e' : k = j
      · subst e'
        rw [Nat.sub_self] at h'
        simp at h'
        subst h'
        rw [show i - k = (i - (k + 1)) + 1 by omega] at h
        have := wo_perm1 (i := i) (x := x) (j := k + 1) (l := l) (by omega) (by simpa using h)
        simp only [wo]
        rw [if_neg (by omega), wo_comm, wo_left l (by omega)]
        exact (this.cons z).trans (List.Perm.swap x z _)
      · rw [show i - j = (i - (j + 1)) + 1 by omega] at h
        rw [show k - j = (k - (j + 1)) + 1 by omega] at h'
        have ih := wo_perm2 hik (x := x) (y := y) (j := j + 1) (l := l) (by omega) (by omega) (by simpa using h) (by simpa using h')
        simp only [wo]
        rw [if_pos ⟨by omega, by omega⟩]
        exact ((ih.cons z).trans (List.Perm.swap x z _)).trans ((List.Perm.swap y z _).cons x)
end

section
variable {V S : Int} {g g' : Mg9} {mk mk' : Nat → Nat} {ts ts' : List Tp}
theorem flat_perm {l l' : List Tp} (h : l.Perm l') : (l.flatMap Tp.row).Perm (l'.flatMap Tp.row) := List.Perm.flatMap_right _ h
theorem FI.mem (h : FI V S g mk ts) (x : Nat) : (x ≠ 0 ∧ x ≤ nN V S) ↔ x ∈ ts.flatMap Tp.row := (h.al x).trans List.mem_flatMap.symm
theorem FI.perm (h : FI V S g mk ts) (hp : ts.Perm ts') : FI V S g mk ts' :=
  ⟨h.hm, fun t ht => h.st t (hp.mem_iff.2 ht), (flat_perm hp).nodup_iff.1 h.nd, fun x => (h.mem x).trans ((flat_perm hp).mem_iff.trans List.mem_flatMap)⟩
theorem Hp.same {g g' : Mg9} {t : Tp} (h : Hp (fun z => g z 5) t) (h5 : ∀ y, g' y 5 = g y 5) : Hp (fun z => g' z 5) t := by
  have : (fun z => g' z 5) = fun z => g z 5 := funext h5
  rw [this]; exact h
theorem Stands.turn {vx : Nat → Bool} {t : Tp} (h : Stands vx mk g t) (hn : t.row.Nodup) (h1 : ∀ x ∈ t.row, ∀ k, g' x k = g x k) (h2 : ∀ x ∈ t.row, mk' x = mk x) : Stands vx mk' g' t :=
  ⟨h.1.congr (fun x hx => ⟨h2 x hx, h1 x hx 3, h1 x hx 4, h1 x hx 6⟩) hn fun x hx _ => h1 x hx 2, fun h0 => (h1 _ (Tp.root_mem h0) 2).trans (h.2 h0)⟩
/-- Some rows are swapped for others. -/
theorem FI.swap {L N R : List Tp} (h : FI V S g mk ts) (hp : ts.Perm (L ++ R)) (hN : (N.flatMap Tp.row).Perm (L.flatMap Tp.row)) (hs : ∀ t ∈ N, Stands (vxN V) mk' g' t ∧ Hp (fun z => g z 5) t ∧ t ≠ .nil)
    (ho : ∀ y, y ∉ L.flatMap Tp.row → ∀ k, g' y k = g y k) (h5 : ∀ y, g' y 5 = g y 5) (hm : ∀ x, mk' x < 4) (hmk : ∀ y, y ∉ L.flatMap Tp.row → mk' y = mk y) : FI V S g' mk' (R ++ N) := by
  have h' := h.perm hp
  have hd := h'.nd
  rw [List.flatMap_append, List.nodup_append] at hd
  have hq : ((R ++ N).flatMap Tp.row).Perm ((L ++ R).flatMap Tp.row) := by
    rw [List.flatMap_append, List.flatMap_append]
    exact (List.Perm.append_left _ hN).trans List.perm_append_comm
  refine ⟨hm, fun t ht => ?_, hq.nodup_iff.2 h'.nd, fun x => (h'.mem x).trans (hq.mem_iff.symm.trans List.mem_flatMap)⟩
  rcases List.mem_append.1 ht with ht | ht
  · have h1 := h'.st t (List.mem_append_right _ ht)
    have hx : ∀ x ∈ t.row, x ∉ L.flatMap Tp.row := fun x hx hL => hd.2.2 x hL x (List.mem_flatMap.2 ⟨t, ht, hx⟩) rfl
    exact ⟨h1.1.turn (h'.one (List.mem_append_right _ ht)) (fun x hx' => ho x (hx x hx')) fun x hx' => hmk x (hx x hx'), h1.2.1.same h5, h1.2.2⟩
  · exact ⟨(hs t ht).1, (hs t ht).2.1.same h5, (hs t ht).2.2⟩
end

/-- What is right along a way up. -/
def UpOk (vx : Nat → Bool) (mk : Nat → Nat) (g : Mg9) : List Fr → Tp → Prop
  | [], _ => True
  | f :: us, t => FrOk vx mk g f ∧ (t.root ≠ 0 → g t.root 2 = f.x) ∧ g f.x (if f.rt then 4 else 3) = t.root ∧ UpOk vx mk g us (f.join t)
section
variable {vx : Nat → Bool} {mk mk' : Nat → Nat} {g g' : Mg9}
theorem climb_up (hm : ∀ x, mk x < 4) : ∀ {us : List Fr} {t : Tp}, Loose vx mk g (climb us t) → (climb us t).size < 65536 → (∀ x ∈ (climb us t).row, x ≠ 0) → UpOk vx mk g us t ∧ Loose vx mk g t
  | [], t, h, _, _ => ⟨trivial, h⟩
  | f :: us, t, h, hz, hp => by
    have ih := climb_up hm (us := us) (t := f.join t) h hz hp
    have h1 := climb_size us (f.join t)
    have h2 := Loose.frame hm ih.2 (by simp only [climb] at hz; omega) (hp f.x (climb_fr (List.mem_cons_self ..)))
    exact ⟨⟨h2.1, h2.2.2.2, h2.2.2.1, ih.1⟩, h2.2.1⟩
theorem UpOk.turn {x0 : Nat} : ∀ {us : List Fr} {t : Tp}, UpOk vx mk g us t → x0 ∈ t.row → (climb us t).row.Nodup → (∀ y, y ≠ x0 → mk' y = mk y) → (∀ y k, (y ≠ x0 ∨ k ≠ 6) → g' y k = g y k) → UpOk vx mk' g' us t
  | [], _, _, _, _, _, _ => trivial
  | f :: us, t, h, hx, hn, h1, h2 => by
    obtain ⟨a, b, c, d⟩ := h
    obtain ⟨no, nt, xo, xt, dj⟩ := Fr.join_nodup (climb_nodup (us := us) (t := f.join t) hn)
    have fx : f.x ≠ x0 := fun e => xt (e ▸ hx)
    have ox : ∀ y ∈ f.o.row, y ≠ x0 := fun y hy e => dj x0 hx (e ▸ hy)
    refine ⟨⟨a.nz, ?_, fun h0 => ?_, ?_, ?_⟩, fun h0 => ?_, ?_, UpOk.turn d (Fr.join_mem.2 (.inr (.inr hx))) hn h1 h2⟩
    · rw [h2 _ _ (.inl fx)]; exact a.side
    · rw [h2 _ _ (.inl (ox _ (Tp.root_mem h0)))]; exact a.par h0
    · rw [h2 _ _ (.inl fx), h1 _ fx]; exact a.own
    · exact a.o.congr (fun y hy => ⟨h1 y (ox y hy), h2 _ _ (.inl (ox y hy)), h2 _ _ (.inl (ox y hy)), h2 _ _ (.inl (ox y hy))⟩) no fun y hy _ => h2 _ _ (.inl (ox y hy))
    · rw [h2 _ _ (.inr (by decide))]; exact b h0
    · rw [h2 _ _ (.inl fx)]; exact c
/-- All sums are reckoned anew on a way up. -/
theorem recks_up (hm : ∀ x, mk x < 4) : ∀ {us : List Fr} {t : Tp} {g : Mg9}, UpOk vx mk g us t → Loose vx mk g t → t.root ≠ 0 → (∀ k, g 0 k = 0) → (climb us t).row.Nodup → (climb us t).size < 65536 → Loose vx mk (recks vx g (us.map Fr.x)) (climb us t)
  | [], _, _, _, h, _, _, _, _ => h
  | f :: us, t, g, h, hl, hr, h0, hn, hz => by
    obtain ⟨a, b, c, d⟩ := h
    have hn' := climb_nodup (us := us) (t := f.join t) hn
    have hz' : (f.join t).size < 65536 := by have := climb_size us (f.join t); simp only [climb] at hz; omega
    have ow := a.own
    have hL : Loose vx mk (reckG vx g f.x (oS (g f.x 6))) (f.join t) := by
      rw [ow]
      have sd := a.side
      have pa := a.par
      have lo := a.o
      revert hn' hz' sd c pa lo
      unfold Fr.join
      cases f.rt with
      | true => intro c hn' hz' sd pa lo; exact reck_loose hm h0 hn' hz' sd c pa b lo hl
      | false => intro c hn' hz' sd pa lo; exact reck_loose hm h0 hn' hz' c sd b pa hl lo
    exact recks_up hm (us := us) (t := f.join t) (d.turn (x0 := f.x) (Fr.join_mem.2 (.inl rfl)) hn (fun _ _ => rfl) fun y k hy => by
      rcases hy with hy | hy
      · exact reckG_other _ _ _ _ hy
      · exact reckG_field _ _ _ _ _ hy) hL (by rw [Fr.join_root]; exact a.nz) (fun k => by rw [reckG_other _ _ _ _ (Ne.symm a.nz)]; exact h0 k) hn hz
theorem recks_other : ∀ {l : List Nat} {g : Mg9} {y k : Nat}, (y ∉ l ∨ k ≠ 6) → recks vx g l y k = g y k
  | [], _, _, _, _ => rfl
  | x :: l, g, y, k, h => by
    show recks vx (reckG vx g x (oS (g x 6))) l y k = g y k
    rw [recks_other (by rcases h with h | h; exact .inl fun e => h (List.mem_cons_of_mem _ e); exact .inr h)]
    rcases h with h | h
    · exact reckG_other _ _ _ _ fun e => h (by simp [e])
    · exact reckG_field _ _ _ _ _ h
/-- The chain of parents. -/
theorem up_chn {n : Nat} : ∀ {us : List Fr} {t : Tp}, UpOk vx mk g us t → t.root ≠ 0 → (∀ f ∈ us, f.x ≤ n) → g (topOf us t.root) 2 = 0 → Chn g n (g t.root 2) (us.map Fr.x)
  | [], _, _, _, _, h => h
  | f :: us, t, h, hr, hn, h0 => by
    obtain ⟨a, b, c, d⟩ := h
    have ih := up_chn (n := n) d (by rw [Fr.join_root]; exact a.nz) (fun f' hf => hn f' (List.mem_cons_of_mem _ hf)) (by rw [Fr.join_root]; exact h0)
    rw [Fr.join_root] at ih
    rw [b hr]
    exact ⟨rfl, a.nz, hn f (List.mem_cons_self ..), ih⟩
theorem top_last : ∀ (us : List Fr) (x z : Nat), ((z :: x :: us.map Fr.x)[(us.map Fr.x).length + 1]?).getD 0 = topOf us x
  | [], _, _ => rfl
  | f :: us, x, z => by
    have := top_last us f.x x
    simpa [topOf] using this
/-- The place in the row. -/
theorem up_idx (hm : ∀ x, mk x < 4) (h0 : ∀ k, g 0 k = 0) : ∀ {us : List Fr} {t : Tp} {i : Nat}, UpOk vx mk g us t → t.root ≠ 0 → (climb us t).row.Nodup → (climb us t).size < 65536 → (∀ y ∈ (climb us t).row, y ≠ 0) → idxG g i t.root (us.map Fr.x) = i + ahead us
  | [], _, _, _, _, _, _, _ => rfl
  | f :: us, t, i, h, hr, hn, hz, hp => by
    obtain ⟨a, b, c, d⟩ := h
    obtain ⟨no, nt, xo, xt, dj⟩ := Fr.join_nodup (climb_nodup (us := us) (t := f.join t) hn)
    have hz' : (f.join t).size < 65536 := by have := climb_size us (f.join t); simp only [climb] at hz; omega
    rw [Fr.join_size] at hz'
    have ih := fun i => up_idx hm h0 (i := i) d (by rw [Fr.join_root]; exact a.nz) hn hz hp
    rw [Fr.join_root] at ih
    show idxG g (if g f.x 4 = t.root then i + (nS (g (g f.x 3) 6) + 1) else i) f.x (us.map Fr.x) = i + ahead (f :: us)
    rw [ih]
    simp only [ahead]
    have sd := a.side
    cases hf : f.rt with
    | true =>
      rw [hf] at c sd
      simp only [if_true] at c sd ⊢
      rw [if_pos c, sd, a.o.sum h0, (sumT_parts hm f.o (by omega)).1]; omega
    | false =>
      rw [hf] at c sd
      simp only [Bool.false_eq_true, if_false] at c sd ⊢
      rw [if_neg]
      · omega
      · rw [sd]
        intro e
        exact dj _ (Tp.root_mem hr) (by rw [← e]; exact Tp.root_mem (by rw [e]; exact hr))
end

end Go.Proofs.Ytgafnomfdnbblaa

/- Calls on a play: Root of the reference, Merge, Split, Mark; rows of numbers of one's own. -/
namespace Go.Proofs.Ytgafnomfdnbblaa
open Go.RowKit

set_option maxRecDepth 100000

/-- Numbers in a slice of one's own. -/
def RI (w : World) (base : Nat) (v : Value) (l : List Nat) : Prop := w.ownsRow base 3 1 v l.length (l.map fun s : Nat => Value.int .i64 (s : Int))
section
variable {w w' W : World} {base : Nat} {v u : Value} {l l2 : List Nat}
theorem RI.li (h : RI w base v l) : LI w v l := (LI.of_owns h).1
theorem RI.bk (h : RI w base v l) : ∀ b, bk v = some b → base ≤ b := (LI.of_owns h).2
theorem RI.nil (w : World) (base : Nat) : RI w base (.slice none 0 0) [] := World.ownsRow_nil _ _ _ _
theorem RI.empty (w : World) : RI (w.alloc (.cells #[] 3)) w.heap.size (.slice (some ⟨w.heap.size, 0, none⟩) 0 0) [] :=
  ⟨rfl, .inr ⟨_, 0, #[], rfl, Nat.le_refl _, Blk.new w _ _, Nat.le_refl _, by simp [maxLen], rfl, rfl⟩⟩
theorem RI.lt (h : RI w base v l) : ∀ k, v.ownBlock = some k → base ≤ k ∧ k < w.heap.size := World.ownsRow.lt h
/-- append of a slice onto one's own. -/
theorem wpList_append_ri (w : World) {ops : Array Oper} {rest : List Oper} {o : Oper} {a : Act} {Q : Exit → Act → World → Prop} (hgd : o.guard = none) (s x : Operand)
    (ho : o.op = .call { callee := .builtin .append, args := #[s, x], argTypes := #[44, 44] })
    {base : Nat} {v u : Value} {l l2 : List Nat} (hs : a.eval s = v) (h : RI w base v l) (hx : a.eval x = u) (hu : LI w u l2) (hl : l.length + l2.length ≤ 100000) (hb : base ≤ w.heap.size)
    (hK : ∀ v' w', RI w' base v' (l ++ l2) → w.grownBy w' v.ownBlock → wpList Try.prog ops Q rest (a.put o.dst v') w') : wpList Try.prog ops Q (o :: rest) a w := by
  obtain ⟨i0, hi0, hz0, hz1, hz2⟩ := info_parts info_i
  obtain ⟨ao, cap, rfl, h1, h2, h3, h4⟩ := hu
  have hone : ∀ u ∈ (l2.map fun s : Nat => Value.int .i64 (s : Int)), u.oneCell' = true := by
    intro u hu
    obtain ⟨y, _, rfl⟩ := List.mem_map.1 hu
    rfl
  have fin : ∀ v' w', w'.ownsRow base 3 1 v' (l.length + l2.length) ((l.map fun s : Nat => Value.int .i64 (s : Int)) ++ (l2.map fun s : Nat => Value.int .i64 (s : Int))) → w.grownBy w' v.ownBlock → wpList Try.prog ops Q rest (a.put o.dst v') w' := by
    intro v' w' h1 h2
    refine hK v' w' ?_ h2
    unfold RI
    rw [List.length_append, List.map_append]; exact h1
  cases ao with
  | none =>
    have hc0 := h3 rfl
    have hl0 : l2 = [] := List.eq_nil_of_length_eq_zero (by omega)
    subst hl0 hc0
    exact wpList_append_own_none hgd s x 44 ho base 3 i0 1 Try.underlying44 hi0 v l.length _ hs h hx (fin v w (by unfold RI at h; simpa using h) ⟨rfl, rfl, rfl, Nat.le_refl _, fun _ _ _ => rfl⟩)
  | some ad =>
    refine wpList_append_own_at w hgd s x 44 ho base 3 i0 _ 1 8 Try.underlying44 hi0 hz0 hz1 hz2 rfl (by omega) v l.length _ hs h ad l2.length cap (l2.map fun s : Nat => Value.int .i64 (s : Int)) hx (by simp) ?_ hone (by simp only [maxLen]; omega) (by omega) hb (fun v' w' a1 a2 _ _ => fin v' w' a1 a2)
    intro j u hj
    obtain ⟨y, hy, rfl⟩ : ∃ y, l2[j]? = some y ∧ u = .int .i64 (y : Int) := by
      simp only [List.getElem?_map, Option.map_eq_some_iff] at hj
      obtain ⟨y, hy, e⟩ := hj
      exact ⟨y, hy, e.symm⟩
    have hj' := (List.getElem?_eq_some_iff.1 hy).1
    obtain ⟨b, off, zs, e, hz, hs2, hx2⟩ := h4 (by omega)
    injection e with e
    rw [e, Addr.add_lit, hz.cell]
    exact hx2 j y hy
end

/-- All blocks of a play are the law's own. -/
structure KOk (K : PK9) : Prop where
  q : K.base ≤ K.q
  p : K.base ≤ K.p
  g : K.base ≤ K.gb
  m : K.base ≤ K.mb

section
variable {w w' W : World} {V S T : Int} {q p gb cap pb mb vb cp cm cv base m m' i k : Nat} {g : Mg9} {mk : Nat → Nat} {ts : List Tp} {vr v : Value} {vs : List Value} {t ta tb : Tp}
theorem PlayM.le (h : PlayM w ⟨V, S, T, q, p, gb, cap, pb, mb, vb, cp, cm, cv, base⟩ m g mk ts vr vs) (hF : FI V S g mk ts) : vs.length = ts.length ∧ ts.length ≤ nN V S ∧ nN V S ≤ 560 := ⟨h.ro.1, hF.len, nN_le (V := V) (S := S) (T := T) h.tm.hR⟩

/-- The reference's root of a row. -/
theorem lroot (h : PlayM w ⟨V, S, T, q, p, gb, cap, pb, mb, vb, cp, cm, cv, base⟩ m g mk ts vr vs) (hr : LI w v t.row) (hp : Hp (fun z => g z 5) t) (hn : ∀ y ∈ t.row, y ≤ nN V S) (hl : t.row.length ≤ 100000) (vr' vm vv : Value) :
    Calls Try.prog 14 #[vF vr' pb (nN V S) cp vm vv, v] w fun e w' => e = .returned (.int .i64 (t.root : Int)) ∧ Below w.heap.size w w' :=
  rroot_any h.fs.p hr hp hn hl
theorem FI.at (hF : FI V S g mk ts) {t : Tp} (ht : ts[i]? = some t) : Stands (vxN V) mk g t ∧ Hp (fun z => g z 5) t ∧ t ≠ .nil ∧ t.row.Nodup ∧ (∀ y ∈ t.row, y ≠ 0 ∧ y ≤ nN V S) ∧ t.size ≤ nN V S := by
  have hm := List.mem_of_getElem? ht
  obtain ⟨a, b, c⟩ := hF.st t hm
  exact ⟨a, b, c, hF.one hm, hF.nodes hm, hF.size hm⟩
theorem lroot_at (h : PlayM w ⟨V, S, T, q, p, gb, cap, pb, mb, vb, cp, cm, cv, base⟩ m g mk ts vr vs) (hF : FI V S g mk ts) (hv : vs[i]? = some v) (ht : ts[i]? = some t) (vr' vm vv : Value) :
    Calls Try.prog 14 #[vF vr' pb (nN V S) cp vm vv, v] w fun e w' => e = .returned (.int .i64 (t.root : Int)) ∧ Below w.heap.size w w' := by
  have hn := nN_le (V := V) (S := S) (T := T) h.tm.hR
  obtain ⟨_, a, _, _, b, c⟩ := hF.at ht
  exact lroot h (h.ro.2 i v t hv ht).1 a (fun y hy => (b y hy).2) (by unfold Tp.size at c; omega) vr' vm vv
theorem FI.pair (_hF : FI V S g mk ts) (hik : i ≠ k) (ha : ts[i]? = some ta) (hb : ts[k]? = some tb) : ts.Perm ([ta, tb] ++ wo i k 0 ts) := wo_perm2 hik (Nat.zero_le _) (Nat.zero_le _) ha hb
theorem flat_two : [ta, tb].flatMap Tp.row = ta.row ++ tb.row := by simp
theorem flat_one : [ta].flatMap Tp.row = ta.row := by simp

/-- Merge, on a play. -/
theorem pmerge (h : PlayM w ⟨V, S, T, q, p, gb, cap, pb, mb, vb, cp, cm, cv, base⟩ m g mk ts vr vs) (hF : FI V S g mk ts) (hik : i ≠ k) (ha : ts[i]? = some ta) (hb : ts[k]? = some tb) (hm : m ≤ 960000) :
    Calls Try.prog 24 #[vTr V S T p, .int .i64 (ta.root : Int), .int .i64 (tb.root : Int)] w fun e w' => ∃ g' t, e = .returned (.int .i64 ((t.root : Nat) : Int)) ∧ PlayM w' ⟨V, S, T, q, p, gb, cap, pb, mb, vb, cp, cm, cv, base⟩ (m + 12 * nN V S + 2) g' mk ts vr vs ∧ FI V S g' mk (wo i k 0 ts ++ [t]) ∧ t.row = ta.row ++ tb.row ∧ t ≠ .nil ∧ Hp (fun z => g' z 5) t ∧ Only p gb w w' ∧ ∀ y, g' y 5 = g y 5 := by
  have hp := hF.pair hik ha hb
  obtain ⟨a1, a2, a3, a4, a5, a6⟩ := hF.at ha
  obtain ⟨b1, b2, b3, b4, b5, b6⟩ := hF.at hb
  have hF' := hF.perm hp
  have hnd : (ta.row ++ tb.row).Nodup := by
    have := hF'.nd
    rw [List.flatMap_append, List.nodup_append, flat_two] at this
    exact this.1
  have hz : ta.size + tb.size ≤ nN V S := by
    have := flat_len hF'
    rw [List.flatMap_append, List.length_append, flat_two, List.length_append] at this
    unfold Tp.size; omega
  refine (tmerge h.tm hF.hm a1.1 b1.1 hz hnd a5 b5 (show m ≤ 970000 by omega)).mono ?_
  rintro e w' ⟨g', t, rfl, A', O', hs, hrow, hhp, ho, h5⟩
  have hne : t ≠ .nil := fun e => a3 (Tp.row_eq_nil (by have := congrArg Tp.row e; rw [hrow] at this; simp [Tp.row] at this; exact this.1))
  have hhp' := hhp a2 b2
  refine ⟨g', t, rfl, h.step A' O' h5, ?_, hrow, hne, hhp'.same h5, O', h5⟩
  refine hF.swap (N := [t]) hp (by rw [flat_two, flat_one, hrow]) ?_ ?_ h5 hF.hm fun _ _ => rfl
  · intro t' ht'
    have : t' = t := by simpa using ht'
    subst this
    exact ⟨hs, hhp', hne⟩
  · intro y hy
    rw [flat_two, ← hrow] at hy
    exact ho y hy

/-- What isn't empty of two trees. -/
def some2 (a b : Tp) : List Tp := (if 0 < a.row.length then [a] else []) ++ (if 0 < b.row.length then [b] else [])
theorem some2_row (a b : Tp) : (some2 a b).flatMap Tp.row = a.row ++ b.row := by
  unfold some2
  rw [List.flatMap_append]
  congr 1
  · split
    · simp
    · rw [List.eq_nil_of_length_eq_zero (by omega : a.row.length = 0)]; rfl
  · split
    · simp
    · rw [List.eq_nil_of_length_eq_zero (by omega : b.row.length = 0)]; rfl
/-- Split, on a play. -/
theorem psplit (h : PlayM w ⟨V, S, T, q, p, gb, cap, pb, mb, vb, cp, cm, cv, base⟩ m g mk ts vr vs) (hF : FI V S g mk ts) (ht : ts[i]? = some t) {k0 : Int} (hk1 : -9223372036854775808 ≤ k0) (hk2 : k0 ≤ 9223372036854775807) (hm : m ≤ 960000) :
    Calls Try.prog 23 #[vTr V S T p, .int .i64 (t.root : Int), .int .i64 k0] w fun e w' => ∃ g' ta tb, e = .returned (.tuple #[.int .i64 ((ta.root : Nat) : Int), .int .i64 ((tb.root : Nat) : Int)]) ∧ PlayM w' ⟨V, S, T, q, p, gb, cap, pb, mb, vb, cp, cm, cv, base⟩ (m + 12 * nN V S + 4) g' mk ts vr vs ∧ FI V S g' mk (wo i i 0 ts ++ some2 ta tb) ∧ ta.row = t.row.take (min k0.toNat t.row.length) ∧ tb.row = t.row.drop (min k0.toNat t.row.length) ∧ Hp (fun z => g' z 5) ta ∧ Hp (fun z => g' z 5) tb ∧ Stands (vxN V) mk g' ta ∧ Stands (vxN V) mk g' tb ∧ Only p gb w w' ∧ ∀ y, g' y 5 = g y 5 := by
  have hp : ts.Perm ([t] ++ wo i i 0 ts) := wo_perm1 (Nat.zero_le _) ht
  obtain ⟨a1, a2, a3, a4, a5, a6⟩ := hF.at ht
  refine (tsplit h.tm hF.hm hk1 hk2 a1.1 a6 a4 a5 (show m ≤ 970000 by omega)).mono ?_
  rintro e w' ⟨g', rfl, A', O', hsa, hsb, ho, h5⟩
  have hrows := splitZ_rows k0 t
  have hhp := splitZ_hp (pri := fun z => g z 5) (fs := wayT k0 t) (by rw [wayT_plug]; exact a2)
  refine ⟨g', _, _, rfl, h.step A' O' h5, ?_, hrows.1, hrows.2, hhp.1.same h5, hhp.2.same h5, hsa, hsb, O', h5⟩
  refine hF.swap (L := [t]) hp ?_ ?_ ?_ h5 hF.hm fun _ _ => rfl
  · rw [some2_row, flat_one, hrows.1, hrows.2, List.take_append_drop]
  · intro t' ht'
    unfold some2 at ht'
    rcases List.mem_append.1 ht' with ht' | ht'
    · split at ht'
      · rename_i hl
        have : t' = (splitZ (wayT k0 t)).1 := by simpa using ht'
        subst this
        exact ⟨hsa, hhp.1, fun e => by rw [e] at hl; simp [Tp.row] at hl⟩
      · simp at ht'
    · split at ht'
      · rename_i hl
        have : t' = (splitZ (wayT k0 t)).2 := by simpa using ht'
        subst this
        exact ⟨hsb, hhp.2, fun e => by rw [e] at hl; simp [Tp.row] at hl⟩
      · simp at ht'
  · intro y hy
    rw [flat_one] at hy
    exact ho y hy

/-- All that is right of a node's way up. -/
theorem FI.node (hF : FI V S g mk ts) (hn : nN V S ≤ 560) (h0 : ∀ k, g 0 k = 0) {x : Nat} (h1 : x ≠ 0) (h2 : x ≤ nN V S) :
    ∃ (i : Nat) (t : Tp) (us : List Fr) (l r : Tp), ts[i]? = some t ∧ t = climb us (.node l x r) ∧ UpOk (vxN V) mk g us (.node l x r) ∧ Loose (vxN V) mk g (.node l x r) ∧ (∀ f ∈ us, 1 ≤ f.x ∧ f.x ≤ nN V S) ∧ us.length + 1 ≤ nN V S ∧ t.root = topOf us x ∧ g t.root 2 = 0 := by
  obtain ⟨t, ht, hx⟩ := (hF.al x).1 ⟨h1, h2⟩
  obtain ⟨i, hi⟩ := List.mem_iff_getElem?.1 ht
  obtain ⟨a1, a2, a3, a4, a5, a6⟩ := hF.at hi
  obtain ⟨us, l, r, e⟩ := climb_to hx
  have hz : (climb us (.node l x r)).size < 65536 := by rw [← e]; omega
  have hp : ∀ y ∈ (climb us (.node l x r)).row, y ≠ 0 := by rw [← e]; exact fun y hy => (a5 y hy).1
  have hc := climb_up hF.hm (us := us) (t := .node l x r) (by rw [← e]; exact a1.1) hz hp
  have hs := climb_size us (.node l x r)
  rw [← e, Tp.size_node] at hs
  have hr : t.root = topOf us x := by rw [e, climb_root]; rfl
  refine ⟨i, t, us, l, r, hi, e, hc.1, hc.2, fun f hf => ?_, by omega, hr, ?_⟩
  · have := a5 f.x (by rw [e]; exact climb_fr hf); omega
  · by_cases h : t.root = 0
    · rw [h]; exact h0 2
    · exact a1.2 h
/-- Mark, on a play. -/
def mkSet (mk : Nat → Nat) (x k : Nat) (on : Bool) : Nat → Nat := fun y => if y = x then setB (mk x) k on else mk y
theorem mkSet_lt (hm : ∀ x, mk x < 4) {x k : Nat} {on : Bool} (hk : k < 2) : ∀ y, mkSet mk x k on y < 4 := fun y => by
  unfold mkSet; split
  · exact setB_lt (hm x) hk
  · exact hm y
theorem pmark (h : PlayM w ⟨V, S, T, q, p, gb, cap, pb, mb, vb, cp, cm, cv, base⟩ m g mk ts vr vs) (hF : FI V S g mk ts) {x : Nat} {on : Bool} (h1 : x ≠ 0) (h2 : x ≤ nN V S) (hk : k < 2) (hm : m ≤ 960000) :
    Calls Try.prog 25 #[vTr V S T p, .int .i64 (x : Int), .int .i64 (k : Int), .bool on] w fun e w' => ∃ g', e = .returned (.tuple #[]) ∧ TM w' V S T p gb cap (m + 7 + 7 * nN V S) g' ∧ (∀ y, g' y 5 = g y 5) ∧ FI V S g' (mkSet mk x k on) ts ∧ Only p gb w w' := by
  have hn := nN_le (V := V) (S := S) (T := T) h.tm.hR
  have h0 : ∀ k, g 0 k = 0 := TM.z h.tm
  obtain ⟨i, t, us, l, r, hi, e, hu, hl, hus, hul, hr, hg⟩ := hF.node hn h0 h1 h2
  obtain ⟨a1, a2, a3, a4, a5, a6⟩ := hF.at hi
  have hm' := mkSet_lt (mk := mk) hF.hm (x := x) (on := on) hk
  have hz : (climb us (.node l x r)).size < 65536 := by rw [← e]; omega
  have hnd : (climb us (.node l x r)).row.Nodup := by rw [← e]; exact a4
  have hnd' := climb_nodup hnd
  have hz' : (Tp.node l x r).size < 65536 := by have := climb_size us (.node l x r); omega
  have own : oS (g x 6) = mk x := by rw [hl.2.2.1]; exact sumT_own hF.hm hz'
  have hsx : mkSet mk x k on x = setB (mk x) k on := if_pos rfl
  obtain ⟨g1, hg1⟩ : ∃ g1, reckG (vxN V) g x (setB (oS (g x 6)) k on) = g1 := ⟨_, rfl⟩
  have hg1' : reckG (vxN V) g x (mkSet mk x k on x) = g1 := by rw [hsx, ← own]; exact hg1
  have hoth : ∀ y j, (y ≠ x ∨ j ≠ 6) → g1 y j = g y j := fun y j hy => by
    rw [← hg1]
    rcases hy with hy | hy
    · exact reckG_other _ _ _ _ hy
    · exact reckG_field _ _ _ _ _ hy
  have hmo : ∀ y, y ≠ x → mkSet mk x k on y = mk y := fun y hy => if_neg hy
  have hu1 : UpOk (vxN V) (mkSet mk x k on) g1 us (.node l x r) := hu.turn (x0 := x) (by simp [Tp.row]) hnd hmo hoth
  have hl1 : Loose (vxN V) (mkSet mk x k on) g1 (.node l x r) := by
    have hnd2 := hnd'
    rw [Tp.row_node, List.nodup_append] at hnd2
    obtain ⟨nl, nr, nd⟩ := hnd2
    rw [List.nodup_cons] at nr
    have lx : ∀ y ∈ l.row, y ≠ x := fun y hy => nd y hy x (by simp)
    have rx : ∀ y ∈ r.row, y ≠ x := fun y hy e => nr.1 (e ▸ hy)
    rw [← hg1']
    exact reck_loose hm' h0 hnd' hz' hl.1 hl.2.1 hl.2.2.2.1 hl.2.2.2.2.1 (hl.2.2.2.2.2.1.congr (fun y hy => ⟨hmo y (lx y hy), rfl, rfl, rfl⟩) nl fun _ _ _ => rfl) (hl.2.2.2.2.2.2.congr (fun y hy => ⟨hmo y (rx y hy), rfl, rfl, rfl⟩) nr.2 fun _ _ _ => rfl)
  have h01 : ∀ k, g1 0 k = 0 := fun k => by rw [hoth 0 k (.inl (Ne.symm h1))]; exact h0 k
  have hc : Chn g1 (nN V S) (g1 x 2) (us.map Fr.x) := up_chn hu1 h1 (fun f hf => (hus f hf).2) (by rw [show (Tp.node l x r).root = x from rfl, ← hr, hoth _ _ (.inr (by decide))]; exact hg)
  have hrk : RecksOk V S (us.map Fr.x) := by
    clear hc hu1 hu e hr hul hz hnd
    induction us with
    | nil => trivial
    | cons f us ih => exact ⟨⟨(hus f (List.mem_cons_self ..)).1, (hus f (List.mem_cons_self ..)).2⟩, ih fun f' hf' => hus f' (List.mem_cons_of_mem _ hf')⟩
  refine (tmark (x := x) h.tm hk ⟨by omega, h2⟩ hg1 hc (by rw [List.length_map]; show _ ≤ nN V S; omega) hrk (show m ≤ 980000 by omega)).mono ?_
  rintro e' w' ⟨rfl, A', O'⟩
  have h5 : ∀ y, recks (vxN V) g1 (us.map Fr.x) y 5 = g y 5 := fun y => by rw [recks_other (.inr (by decide)), hoth _ _ (.inr (by decide))]
  refine ⟨_, rfl, A', h5, ?_, O'⟩
  have hp : ts.Perm ([t] ++ wo i i 0 ts) := wo_perm1 (Nat.zero_le _) hi
  have hx : x ∈ t.row := by rw [e]; exact climb_mem (by simp [Tp.row])
  have hL := recks_up hm' hu1 hl1 h1 h01 hnd hz
  rw [← e] at hL
  refine (hF.swap (N := [t]) (mk' := mkSet mk x k on) (g' := recks (vxN V) g1 (us.map Fr.x)) hp (List.Perm.refl _) ?_ ?_ h5 hm' ?_).perm ((List.perm_append_comm).trans hp.symm)
  · intro t' ht'
    have : t' = t := by simpa using ht'
    subst this
    exact ⟨⟨hL, fun h => by rw [recks_other (.inr (by decide)), hoth _ _ (.inr (by decide))]; exact hg⟩, a2, a3⟩
  · intro y hy j
    rw [flat_one] at hy
    have hyx : y ≠ x := fun e => hy (by rw [e]; exact hx)
    have hyu : y ∉ us.map Fr.x := fun hyu => by
      obtain ⟨f, hf, rfl⟩ := List.mem_map.1 hyu
      exact hy (by rw [e]; exact climb_fr hf)
    rw [recks_other (.inl hyu), hoth _ _ (.inl hyx)]
  · intro y hy
    rw [flat_one] at hy
    exact hmo y fun e => hy (by rw [e]; exact hx)
end

end Go.Proofs.Ytgafnomfdnbblaa

/- The law's step: what stands beside a play; the calls of row. Printed by wip/tools/trqe.py. -/
namespace Go.Proofs.Ytgafnomfdnbblaa
open Go.RowKit

set_option maxRecDepth 100000

/-- A play's variable, beside an operation's. -/
structure PO (W : World) (q : Nat) (V S T : Int) (p n pb cp mb cm vb cv : Nat) (vr : Value) (ob : Nat) (kd a b k : Int) (on : Bool) : Prop where
  p : PF W q V S T p n pb cp mb cm vb cv vr
  o : Blk W ob 33 #[.int .i64 kd, .int .i64 a, .int .i64 b, .int .i64 k, .bool on]
/-- A play in the law's memory, beside an operation. -/
structure St9 (w0 W : World) (K : PK9) (m : Nat) (g : Mg9) (mk : Nat → Nat) (ts : List Tp) (vr : Value) (vs : List Value) (ob : Nat) (kd a b k : Int) (on : Bool) : Prop where
  pl : PlayM W K m g mk ts vr vs
  o : Blk W ob 33 #[.int .i64 kd, .int .i64 a, .int .i64 b, .int .i64 k, .bool on]
  be : Below K.base w0 W
  hb : K.base ≤ w0.heap.size
/-- What a step leaves. -/
def StepD (K : PK9) (m : Nat) (g : Mg9) (w : World) (e : Ending) (w' : World) : Prop :=
  ∃ g' mk' ts' vr' vs', e = .returned (.bool true) ∧ PlayM w' K m g' mk' ts' vr' vs' ∧ FI K.V K.S g' mk' ts' ∧ Below K.base w w' ∧ ∀ y, g' y 5 = g y 5

/-- append of a row, and where it lies then. -/
theorem wpList_append_row2 (w : World) {ops : Array Oper} {rest : List Oper} {o : Oper} {a : Act} {Q : Exit → Act → World → Prop} (hgd : o.guard = none) (s x : Operand)
    (ho : o.op = .call { callee := .builtin .append, args := #[s, x], argTypes := #[43, 43] })
    {v : Value} {xs : List Value} {base : Nat} (hs : a.eval s = v) (h : RowV w base v xs) (u : Value) (hu : u.oneCell' = true) (ad : Addr) (c : Nat) (hx : a.eval x = .slice (some ad) 1 c) (hc0 : w.cell? (ad.add 0) = some u) (hl : xs.length ≤ 100000) (hb : base ≤ w.heap.size)
    (hK : ∀ v' w', RowV w' base v' (xs ++ [u]) → w.grownBy w' v.ownBlock → (v'.ownBlock = v.ownBlock ∨ v'.ownBlock = some w.heap.size) → wpList Try.prog ops Q rest (a.put o.dst v') w') : wpList Try.prog ops Q (o :: rest) a w := by
  obtain ⟨i0, hi0, hz0, hz1, hz2⟩ := info_parts info_li
  refine wpList_append_own_at w hgd s x 43 ho base 44 i0 _ 1 24 Try.underlying43 hi0 hz0 hz1 hz2 rfl (by omega) v xs.length xs hs h ad 1 c [u] hx rfl ?_ ?_ (by simp only [maxLen]; omega) (by omega) hb ?_
  · intro j u' hj
    match j, hj with
    | 0, hj => simp at hj; subst hj; exact hc0
    | j + 1, hj => simp at hj
  · intro u' hu'; simp at hu'; subst hu'; exact hu
  · intro v' w' h1 h2 _ h4
    refine hK v' w' ?_ h2 h4
    unfold RowV
    rw [List.length_append, List.length_singleton]
    exact h1
theorem bk_cut {b off off2 n n2 c c2 x : Nat} (h : bk (.slice (some ⟨b, off, none⟩) n c) ≠ some x) (hc : c2 ≤ c) : bk (.slice (some ⟨b, off2, none⟩) n2 c2) ≠ some x := by
  cases c2 with
  | zero => rw [bk_zero]; simp
  | succ c2 =>
    cases c with
    | zero => omega
    | succ c => exact h
/-- What of two trees has been told. -/
def partsT (ta tb : Tp) : Nat → List Tp
  | 0 => []
  | 1 => if 0 < ta.row.length then [ta] else []
  | _ => some2 ta tb
theorem partsT_one (ta tb : Tp) : partsT ta tb (0 + 1) = partsT ta tb 0 ++ if 0 < ta.row.length then [ta] else [] := by simp [partsT]
theorem partsT_two (ta tb : Tp) : partsT ta tb (1 + 1) = partsT ta tb 1 ++ if 0 < tb.row.length then [tb] else [] := rfl
def SpRel (w0 : World) (K : PK9) (m : Nat) (g : Mg9) (mk : Nat → Nat) (tsR : List Tp) (ta tb : Tp) (ob : Nat) (kd a b k : Int) (on : Bool) (pk : Nat) (p1 p2 : Value) (i : Value) (W : World) : Prop :=
  ∃ j ts vr vs, j ≤ 2 ∧ i = .int .i64 ((j : Nat) : Int) ∧ ts = tsR ++ partsT ta tb j ∧ St9 w0 W K m g mk ts vr vs ob kd a b k on ∧ Blk W pk 44 #[p1, p2] ∧ LI W p1 ta.row ∧ LI W p2 tb.row ∧ vr.ownBlock ≠ some pk

section
variable {w w' W W' w0 : World} {V S T : Int} {q p gb cap pb mb vb cp cm cv base m m' ob n : Nat} {g g' : Mg9} {mk : Nat → Nat} {ts : List Tp} {vr v : Value} {vs : List Value} {K : PK9} {kd a b k : Int} {on : Bool}
theorem PO.below (h : PO w q V S T p n pb cp mb cm vb cv vr ob kd a b k on) (hb : Below w.heap.size w w') : PO w' q V S T p n pb cp mb cm vb cv vr ob kd a b k on := ⟨h.p.below hb, h.o.below hb h.o.lt⟩
theorem PO.drew (h : PO w q V S T p n pb cp mb cm vb cv vr ob kd a b k on) : PO w.drew q V S T p n pb cp mb cm vb cv vr ob kd a b k on := ⟨h.p, h.o⟩
theorem PO.only (h : PO w q V S T p n pb cp mb cm vb cv vr ob kd a b k on) (A : TM w V S T p gb cap m g) (ho : Only p gb w w') : PO w' q V S T p n pb cp mb cm vb cv vr ob kd a b k on := ⟨h.p.only A ho, h.o.treap A ho (by decide) (by decide)⟩
theorem po_rule (q : Nat) (V S T : Int) (p n pb cp mb cm vb cv : Nat) (vr : Value) (ob : Nat) (kd a b k : Int) (on : Bool) : ∀ W : World, PO W q V S T p n pb cp mb cm vb cv vr ob kd a b k on → W.cell? ⟨q, 0, none⟩ = some (.int .i64 V) ∧ W.cell? ⟨q, 1, none⟩ = some (.int .i64 S) ∧ W.cell? ⟨q, 2, none⟩ = some (.int .i64 T) ∧ W.cell? ⟨q, 4, none⟩ = some (.int .i64 V) ∧ W.cell? ⟨q, 5, none⟩ = some (.int .i64 S) ∧ W.cell? ⟨q, 6, none⟩ = some (.int .i64 T) ∧ W.cell? ⟨q, 7, none⟩ = some (.iface 71 (pmV p)) ∧ W.cell? ⟨q, 8, none⟩ = some (.int .i64 1) ∧ W.cell? ⟨q, 9, none⟩ = some (.int .i64 0) ∧ W.cell? ⟨q, 10, none⟩ = some vr ∧ W.cell? ⟨q, 11, none⟩ = some (.slice (some ⟨pb, 0, none⟩) (n + 1) cp) ∧ W.cell? ⟨q, 12, none⟩ = some (.slice (some ⟨mb, 0, none⟩) (n + 1) cm) ∧ W.cell? ⟨q, 13, none⟩ = some (.slice (some ⟨vb, 0, none⟩) (n + 1) cv) ∧ W.cell? ⟨ob, 0, none⟩ = some (.int .i64 kd) ∧ W.cell? ⟨ob, 1, none⟩ = some (.int .i64 a) ∧ W.cell? ⟨ob, 2, none⟩ = some (.int .i64 b) ∧ W.cell? ⟨ob, 3, none⟩ = some (.int .i64 k) ∧ W.cell? ⟨ob, 4, none⟩ = some (.bool on) := fun W h => by
  obtain ⟨y0, y1, y2, y3, y4, y5, y6, y7, y8, y9, y10, y11, y12, y13⟩ := h.p.cells
  exact ⟨y0, y1, y2, y4, y5, y6, y7, y8, y9, y10, y11, y12, y13, h.o.cell 0, h.o.cell 1, h.o.cell 2, h.o.cell 3, h.o.cell 4⟩
theorem St9.po (h : St9 w0 W ⟨V, S, T, q, p, gb, cap, pb, mb, vb, cp, cm, cv, base⟩ m g mk ts vr vs ob kd a b k on) : PO W q V S T p (nN V S) pb cp mb cm vb cv vr ob kd a b k on := ⟨h.pl.blk, h.o⟩
theorem St9.below (h : St9 w0 W K m g mk ts vr vs ob kd a b k on) (hb : Below W.heap.size W W') : St9 w0 W' K m g mk ts vr vs ob kd a b k on := ⟨h.pl.below hb, h.o.below hb h.o.lt, h.be.trans (hb.mono (Nat.le_trans h.hb h.be.size)), h.hb⟩
theorem St9.drew (h : St9 w0 W K m g mk ts vr vs ob kd a b k on) : St9 w0 W.drew K m g mk ts vr vs ob kd a b k on := h.below (Below.refl _ _).drew
theorem St9.only (h : St9 w0 W ⟨V, S, T, q, p, gb, cap, pb, mb, vb, cp, cm, cv, base⟩ m g mk ts vr vs ob kd a b k on) (hK : KOk ⟨V, S, T, q, p, gb, cap, pb, mb, vb, cp, cm, cv, base⟩) (hp : PlayM W' ⟨V, S, T, q, p, gb, cap, pb, mb, vb, cp, cm, cv, base⟩ m' g' mk ts vr vs) (ho : Only p gb W W') : St9 w0 W' ⟨V, S, T, q, p, gb, cap, pb, mb, vb, cp, cm, cv, base⟩ m' g' mk ts vr vs ob kd a b k on :=
  ⟨hp, h.o.treap h.pl.tm ho (by decide) (by decide), Only.below h.be ho (Nat.le_trans h.hb h.be.size) hK.p hK.g, h.hb⟩
theorem St9.new (h : PlayM w ⟨V, S, T, q, p, gb, cap, pb, mb, vb, cp, cm, cv, base⟩ m g mk ts vr vs) (hK : KOk ⟨V, S, T, q, p, gb, cap, pb, mb, vb, cp, cm, cv, base⟩) (kd a b k : Int) (on : Bool) : St9 w (w.alloc (.cells #[.int .i64 kd, .int .i64 a, .int .i64 b, .int .i64 k, .bool on] 33)) ⟨V, S, T, q, p, gb, cap, pb, mb, vb, cp, cm, cv, base⟩ m g mk ts vr vs w.heap.size kd a b k on := by
  have hq : base ≤ w.heap.size := Nat.le_of_lt (Nat.lt_of_le_of_lt hK.q (Blk.lt h.blk))
  exact ⟨h.below ((Below.refl _ _).alloc (Nat.le_refl _) _), Blk.new _ _ _, (Below.refl _ _).alloc hq _, hq⟩
theorem lrow (h : PlayM w ⟨V, S, T, q, p, gb, cap, pb, mb, vb, cp, cm, cv, base⟩ m g mk ts vr vs) {x : Int} (hts : ts.length ≤ 100000) (hk : x ≤ 9223372036854775807) :
    Calls Try.prog 22 #[.pointer (some ⟨q, 0, none⟩), .int .i64 x] w fun e w' => e = .returned (.int .i64 (rowF x ts.length)) ∧ Below w.heap.size w w' := row_any h hts hk
theorem rowF_cases (x : Int) (n : Nat) : rowF x n = -1 ∨ ∃ i : Nat, rowF x n = (i : Int) ∧ i < n := by
  unfold rowF
  split
  · exact .inl rfl
  · rename_i h
    have h1 := Int.emod_nonneg x (show (n : Int) ≠ 0 by omega)
    have h2 := Int.emod_lt_of_pos x (show (0 : Int) < n by omega)
    exact .inr ⟨(x % (n : Int)).toNat, by omega, by omega⟩
/-- A row's slice, in its place. -/
theorem RowV.at {base : Nat} (h : RowV W base vr vs) {i : Nat} (hv : vs[i]? = some v) : ∃ rg c, vr = .slice (some ⟨rg, 0, none⟩) vs.length c ∧ base ≤ rg ∧ rg < W.heap.size ∧ ∃ cs, Blk W rg 44 cs ∧ ∀ (j : Nat) (u : Value), vs[j]? = some u → cs[j]? = some u := by
  rcases h.shape with ⟨_, h0⟩ | ⟨g, c, cs, e, hb, hz, _, _, hcs⟩
  · rw [h0] at hv; simp at hv
  · exact ⟨g, c, e, hb, hz.lt, cs, hz, hcs⟩
theorem RowsOk.get {mb : Nat} (h : RowsOk W mb vs ts) {i : Nat} (hi : i < ts.length) : ∃ v t, vs[i]? = some v ∧ ts[i]? = some t ∧ LI W v t.row ∧ bk v ≠ some mb ∧ ∃ a c, v = .slice a t.row.length c := by
  have hi' : i < vs.length := by rw [h.1]; exact hi
  have hh := h.2 i _ _ (List.getElem?_eq_getElem hi') (List.getElem?_eq_getElem hi)
  obtain ⟨a, c, e, _⟩ := hh.1.shape
  exact ⟨_, _, List.getElem?_eq_getElem hi', List.getElem?_eq_getElem hi, hh.1, hh.2, a, c, e⟩
theorem drewN_below (w : World) (j : Nat) : Below w.heap.size w (w.drewN j) := below_drewN (Below.refl _ _) j
theorem only_set (w : World) (q i : Nat) (u : Value) : Only q q w (w.setCell ⟨q, i, none⟩ u) := ⟨rfl, rfl, rfl, by simp [World.setCell], fun k _ h _ => Below.heap_setCell w ⟨q, i, none⟩ u k h⟩
theorem FS.onlyq {n : Nat} {pri : Nat → Nat} {vx : Nat → Bool} {ty : TypeId} (h : FS w pb mb vb n pri mk vx) {cs : Array Value} (hz : Blk w q ty cs) (n1 : 73 ≠ ty) (n2 : 3 ≠ ty) (n3 : 4 ≠ ty) (ho : Only q q w w') : FS w' pb mb vb n pri mk vx := by
  obtain ⟨⟨z1, h1, e1⟩, ⟨z2, h2, d2, e2⟩, ⟨z3, h3, e3⟩⟩ := h
  have a1 := h1.ne_ hz n1
  have a2 := h2.ne_ hz n2
  have a3 := h3.ne_ hz n3
  exact ⟨⟨z1, h1.only ho a1 a1, e1⟩, ⟨z2, h2.only ho a2 a2, d2, e2⟩, ⟨z3, h3.only ho a3 a3, e3⟩⟩
/-- The rows are told anew. -/
theorem PlayM.mk_rows {ts' : List Tp} {vr' : Value} {vs' : List Value} (hq : PF W q V S T p (nN V S) pb cp mb cm vb cv vr) (A : TM W V S T p gb cap m g) (hf : FS W pb mb vb (nN V S) (fun z => g z 5) mk (vx0 V)) (np : pb ≠ gb) (hv : RowV W base vr' vs') (hr : RowsOk W mb vs' ts') : PlayM (W.setCell ⟨q, 10, none⟩ vr') ⟨V, S, T, q, p, gb, cap, pb, mb, vb, cp, cm, cv, base⟩ m g mk ts' vr' vs' := by
  have hq' : Blk W q 49 _ := hq
  have ho := only_set W q 10 vr'
  exact ⟨hq'.set_ 10 vr', A.far hq' (by decide) (by decide) _, hv.only ho (hv.ne_blk hq' (by decide)) (hv.ne_blk hq' (by decide)), hr.only ho hq' hq' (by decide) (by decide), hf.onlyq hq' (by decide) (by decide) (by decide) ho, np⟩
theorem PlayM.rows {ts' : List Tp} {vr' : Value} {vs' : List Value} (h : PlayM W ⟨V, S, T, q, p, gb, cap, pb, mb, vb, cp, cm, cv, base⟩ m g mk ts vr vs) (hv : RowV W base vr' vs') (hr : RowsOk W mb vs' ts') : PlayM (W.setCell ⟨q, 10, none⟩ vr') ⟨V, S, T, q, p, gb, cap, pb, mb, vb, cp, cm, cv, base⟩ m g mk ts' vr' vs' := PlayM.mk_rows h.blk h.tm h.fs h.npg hv hr
theorem FS.grown {n : Nat} {pri : Nat → Nat} {vx : Nat → Bool} {r : Option Nat} (h : FS w pb mb vb n pri mk vx) (hg : w.grownBy w' r) (h1 : r ≠ some pb) (h2 : r ≠ some mb) (h3 : r ≠ some vb) : FS w' pb mb vb n pri mk vx :=
  ⟨h.p.keep (hg.block _ h.p.lt fun e => h1 e.symm), h.m.keep (hg.block _ h.m.lt fun e => h2 e.symm), h.v.keep (hg.block _ h.v.lt fun e => h3 e.symm)⟩
theorem RowV.ne_li {base : Nat} {l : List Nat} {u : Value} (h : RowV w base v vs) (hu : LI w u l) : ∀ b, bk u = some b → v.ownBlock ≠ some b := by
  intro b hb e
  rcases h.shape with ⟨rfl, _⟩ | ⟨g, c, cs, rfl, _, hz, _⟩
  · cases e
  · have : g = b := by injection e
    subst this
    exact hu.ne_blk hz (by decide) hb
theorem RowsOk.snoc (h : RowsOk W mb vs ts) {t : Tp} (hv : LI W v t.row) (hb : bk v ≠ some mb) : RowsOk W mb (vs ++ [v]) (ts ++ [t]) := by
  refine ⟨by simp [h.1], fun i u t' h1 h2 => ?_⟩
  by_cases hi : i < vs.length
  · rw [List.getElem?_append_left hi] at h1
    rw [List.getElem?_append_left (by rw [← h.1]; exact hi)] at h2
    exact h.2 i u t' h1 h2
  · rw [List.getElem?_append_right (by omega)] at h1
    rw [List.getElem?_append_right (by rw [← h.1]; omega)] at h2
    rw [h.1] at h1
    cases hk : i - ts.length with
    | zero => rw [hk] at h1 h2; simp at h1 h2; subst h1 h2; exact ⟨hv, hb⟩
    | succ k => rw [hk] at h1; simp at h1
/-- A row is appended, where it lies. -/
theorem PlayM.append {t : Tp} {u v' : Value} (h : PlayM W ⟨V, S, T, q, p, gb, cap, pb, mb, vb, cp, cm, cv, base⟩ m g mk ts vr vs) (hg : W.grownBy W' vr.ownBlock) (hv : RowV W' base v' (vs ++ [u])) (hu : LI W u t.row) (hb : bk u ≠ some mb) : PlayM (W'.setCell ⟨q, 10, none⟩ v') ⟨V, S, T, q, p, gb, cap, pb, mb, vb, cp, cm, cv, base⟩ m g mk (ts ++ [t]) v' (vs ++ [u]) := by
  have rv : RowV W base vr vs := h.rv
  have hq : Blk W q 49 _ := h.blk
  obtain ⟨⟨_, b1⟩, ⟨_, b2⟩⟩ := h.tm.blk
  obtain ⟨⟨_, b3, _⟩, ⟨_, b4, _⟩, ⟨_, b5, _⟩⟩ := h.fs
  have hf : FS W pb mb vb (nN V S) (fun z => g z 5) mk (vx0 V) := h.fs
  have A : TM W V S T p gb cap m g := h.tm
  exact PlayM.mk_rows (hq.grown hg (rv.ne_blk hq (by decide))) (A.grown hg (rv.ne_blk b1 (by decide)) (rv.ne_blk b2 (by decide))) (hf.grown hg (rv.ne_blk b3 (by decide)) (rv.ne_blk b4 (by decide)) (rv.ne_blk b5 (by decide))) h.npg hv
    ((h.ro.keep fun x t _ _ hx _ => hx.grownBy_ hg (rv.ne_li hx)).snoc (hu.grownBy_ hg (rv.ne_li hu)) hb)
theorem St9.rows {ts' : List Tp} {vr' : Value} {vs' : List Value} (h : St9 w0 W ⟨V, S, T, q, p, gb, cap, pb, mb, vb, cp, cm, cv, base⟩ m g mk ts vr vs ob kd a b k on) (hK : KOk ⟨V, S, T, q, p, gb, cap, pb, mb, vb, cp, cm, cv, base⟩) (hv : RowV W base vr' vs') (hr : RowsOk W mb vs' ts') : St9 w0 (W.setCell ⟨q, 10, none⟩ vr') ⟨V, S, T, q, p, gb, cap, pb, mb, vb, cp, cm, cv, base⟩ m g mk ts' vr' vs' ob kd a b k on :=
  ⟨h.pl.rows hv hr, h.o.far (Blk.ne_ h.o (show Blk W q 49 _ from h.pl.blk) (by decide)) vr', h.be.setCell hK.q _, h.hb⟩
theorem St9.append {t : Tp} {u v' : Value} (h : St9 w0 W ⟨V, S, T, q, p, gb, cap, pb, mb, vb, cp, cm, cv, base⟩ m g mk ts vr vs ob kd a b k on) (hK : KOk ⟨V, S, T, q, p, gb, cap, pb, mb, vb, cp, cm, cv, base⟩) (hg : W.grownBy W' vr.ownBlock) (hv : RowV W' base v' (vs ++ [u])) (hu : LI W u t.row) (hb : bk u ≠ some mb) : St9 w0 (W'.setCell ⟨q, 10, none⟩ v') ⟨V, S, T, q, p, gb, cap, pb, mb, vb, cp, cm, cv, base⟩ m g mk (ts ++ [t]) v' (vs ++ [u]) ob kd a b k on := by
  have rv : RowV W base vr vs := h.pl.rv
  have hq : Blk W q 49 _ := h.pl.blk
  exact ⟨h.pl.append hg hv hu hb, (h.o.grown hg (rv.ne_blk h.o (by decide))).far (Blk.ne_ h.o hq (by decide)) v', (h.be.grown hg (Nat.le_trans h.hb h.be.size) (fun r hr => (rv.lt r hr).1)).setCell hK.q _, h.hb⟩
theorem RowsOk.last {t : Tp} (h : RowsOk W mb (vs ++ [v]) (ts ++ [t])) : LI W v t.row := by
  have hl : vs.length = ts.length := by have := h.1; simpa using this
  exact (h.2 vs.length v t (by simp) (by rw [hl]; simp)).1
theorem wo_le {α : Type} (i k : Nat) : ∀ (j : Nat) (l : List α), (wo i k j l).length ≤ l.length
  | _, [] => Nat.le_refl _
  | j, x :: l => by have := wo_le i k (j + 1) l; simp only [wo]; split <;> simp <;> omega
theorem lwithout (h : PlayM w ⟨V, S, T, q, p, gb, cap, pb, mb, vb, cp, cm, cv, base⟩ m g mk ts vr vs) {i k : Nat} (hts : ts.length ≤ 100000) :
    Calls Try.prog 38 #[.pointer (some ⟨q, 0, none⟩), .int .i64 (i : Int), .int .i64 (k : Int)] w fun e w' => ∃ v, e = .returned v ∧ RowV w' w.heap.size v (wo i k 0 vs) ∧ Below w.heap.size w w' := without_any h hts
theorem and1_i64 (n : Int) : bits .and .i64 n 1 = n % 2 := by
  have h1 : (BitVec.ofInt 64 1).toNat = 2 ^ 1 - 1 := by decide
  have key : (BitVec.ofInt 64 n &&& BitVec.ofInt 64 1).toNat = (n % ((2 ^ 64 : Nat) : Int)).toNat % 2 ^ 1 := by
    rw [BitVec.toNat_and, BitVec.toNat_ofInt, h1, Nat.and_two_pow_sub_one_eq_mod]
  show IntKind.i64.wrap ((BitVec.ofInt 64 n &&& BitVec.ofInt 64 1).toNat : Nat) = n % 2
  rw [key, IntKind.wrap_i64]
  omega
theorem andNot_i64 {s k : Nat} (hs : s < 4) (hk : k < 2) : bits .andNot .i64 (s : Int) (bt k : Int) = (setB s k false : Int) := by
  have key : ∀ s < 4, ∀ k < 2, bits .andNot .i64 ((s : Nat) : Int) ((bt k : Nat) : Int) = ((setB s k false : Nat) : Int) := by decide
  exact key s hs k hk
theorem orB_i64 {s k : Nat} (hs : s < 4) (hk : k < 2) : bits .or .i64 (setB s k false : Int) (bt k : Int) = (setB s k true : Int) := by
  have key : ∀ s < 4, ∀ k < 2, bits .or .i64 ((setB s k false : Nat) : Int) ((bt k : Nat) : Int) = ((setB s k true : Nat) : Int) := by decide
  exact key s hs k hk
/-- A mark is told anew. -/
theorem PlayM.mark {x v : Nat} (h : PlayM W ⟨V, S, T, q, p, gb, cap, pb, mb, vb, cp, cm, cv, base⟩ m g mk ts vr vs) (hx : x ≤ nN V S) : PlayM (W.setCell ⟨mb, x, none⟩ (.int .i64 (v : Int))) ⟨V, S, T, q, p, gb, cap, pb, mb, vb, cp, cm, cv, base⟩ m g (fun y => if y = x then v else mk y) ts vr vs := by
  have hq : Blk W q 49 _ := h.blk
  obtain ⟨⟨z1, b3, e1⟩, ⟨z2, b4, d2, e2⟩, ⟨z3, b5, e3⟩⟩ := h.fs
  have ho := only_set W mb x (.int .i64 (v : Int))
  have rv : RowV W base vr vs := h.rv
  refine ⟨Blk.far (p := ⟨mb, x, none⟩) hq (Blk.ne_ hq b4 (by decide)) _, h.tm.far b4 (by decide) (by decide) _, rv.only ho (rv.ne_blk b4 (by decide)) (rv.ne_blk b4 (by decide)), h.ro.keep fun u t _ _ hl hb => hl.only ho hb hb, ⟨⟨z1, b3.only ho (Blk.ne_ b3 b4 (by decide)) (Blk.ne_ b3 b4 (by decide)), e1⟩, ⟨_, b4.set_ x _, by simpa using d2, fun k hk => ?_⟩, ⟨z3, b5.only ho (Blk.ne_ b5 b4 (by decide)) (Blk.ne_ b5 b4 (by decide)), e3⟩⟩, h.npg⟩
  by_cases hkx : k = x
  · subst hkx
    rw [Array.getElem?_setIfInBounds_self_of_lt (by rw [d2]; exact Nat.lt_succ_of_le hk)]
    show _ = some (Value.int .i64 (((if k = k then v else mk k : Nat)) : Int))
    rw [if_pos rfl]
  · rw [Array.getElem?_setIfInBounds_ne (by omega)]
    show _ = some (Value.int .i64 (((if k = x then v else mk k : Nat)) : Int))
    rw [if_neg hkx]; exact e2 k hk
theorem St9.mark {x v : Nat} (h : St9 w0 W ⟨V, S, T, q, p, gb, cap, pb, mb, vb, cp, cm, cv, base⟩ m g mk ts vr vs ob kd a b k on) (hK : KOk ⟨V, S, T, q, p, gb, cap, pb, mb, vb, cp, cm, cv, base⟩) (hx : x ≤ nN V S) : St9 w0 (W.setCell ⟨mb, x, none⟩ (.int .i64 (v : Int))) ⟨V, S, T, q, p, gb, cap, pb, mb, vb, cp, cm, cv, base⟩ m g (fun y => if y = x then v else mk y) ts vr vs ob kd a b k on := by
  obtain ⟨_, ⟨z2, b4, _⟩, _⟩ := h.pl.fs
  exact ⟨h.pl.mark hx, Blk.far (p := ⟨mb, x, none⟩) h.o (Blk.ne_ h.o b4 (by decide)) _, h.be.setCell hK.m _, h.hb⟩
theorem pmarkI {kI : Int} {k x : Nat} {on : Bool} (hkI : kI = (k : Int)) (h : PlayM w ⟨V, S, T, q, p, gb, cap, pb, mb, vb, cp, cm, cv, base⟩ m g mk ts vr vs) (hF : FI V S g mk ts) (h1 : x ≠ 0) (h2 : x ≤ nN V S) (hk : k < 2) (hm : m ≤ 960000) :
    Calls Try.prog 25 #[vTr V S T p, .int .i64 (x : Int), .int .i64 kI, .bool on] w fun e w' => ∃ g', e = .returned (.tuple #[]) ∧ TM w' V S T p gb cap (m + 7 + 7 * nN V S) g' ∧ (∀ y, g' y 5 = g y 5) ∧ FI V S g' (mkSet mk x k on) ts ∧ Only p gb w w' := by
  subst hkI; exact pmark h hF h1 h2 hk hm
theorem PlayM.size (h : PlayM w ⟨V, S, T, q, p, gb, cap, pb, mb, vb, cp, cm, cv, base⟩ m g mk ts vr vs) : q < w.heap.size ∧ mb < w.heap.size := by
  refine ⟨Blk.lt h.blk, h.fs.m.lt⟩
end

end Go.Proofs.Ytgafnomfdnbblaa
