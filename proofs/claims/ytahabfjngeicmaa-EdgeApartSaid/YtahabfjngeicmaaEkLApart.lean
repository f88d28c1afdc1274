/- The law EdgeApart. Printed by wip/tools/edl.py. -/
import Derived.Test.YtahabfjngeicmaaEkS
import Derived.Laws.AppendOwnNone
import Derived.BigQuiet
import Derived.Deep.DeepCutAuto
namespace Go.Proofs.Ytahabfjngeicmaa
open Go.RowKit

set_option maxRecDepth 100000

/-- append of any edges onto edges of one's own. -/
theorem wpList_append_ow_all {w : World} {base base2 : Nat} {v u : Value} {l l2 : List E1} {ops : Array Oper} {rest : List Oper} {o : Oper} {a : Act} {Q : Exit → Act → World → Prop} (hgd : o.guard = none) (s x : Operand)
    (ho : o.op = .call { callee := .builtin .append, args := #[s, x], argTypes := #[68, 68] })
    (hs : a.eval s = v) (h : OW w base v l) (hx : a.eval x = u) (hu : OW w base2 u l2) (hl : l.length + l2.length ≤ 100000) (hb : base ≤ w.heap.size)
    (hK : ∀ v' w', OW w' base v' (l ++ l2) → w.grownBy w' v.ownBlock → wpList Try.prog ops Q rest (a.put o.dst v') w') : wpList Try.prog ops Q (o :: rest) a w := by
  rcases hu.shape with ⟨rfl, rfl⟩ | ⟨g, c, cs, rfl, _⟩
  · obtain ⟨i0, hi0, hz0, hz1, hz2⟩ := info_parts info_one
    exact wpList_append_own_none hgd s x 68 ho base 79 i0 5 Try.underlying68 hi0 v l.length _ hs h hx (hK v w (by rw [List.append_nil]; exact h) ⟨rfl, rfl, rfl, Nat.le_refl _, fun _ _ _ => rfl⟩)
  · refine wpList_append_ow hgd s x ho hs h ⟨g, 0, none⟩ l2.length c rfl hx (fun j u hj => ?_) hl hb hK
    rw [Addr.add_lit, Nat.zero_add]
    exact hu.src j u hj
/-- In EdgeApart's loop. -/
def Ap11 (w0 : World) (base q : Nat) (V S T : Int) (p gb cap M n : Nat) (f : Nat → Int) (vl : Value) (ls' : List E1) (wb : Nat) (vw : Value) (ls : List E1) (i : Value) (W : World) : Prop :=
  ∃ k, k ≤ n ∧ i = .int .i64 ((k : Nat) : Int) ∧ LW11 w0 W base q V S T p gb cap (M + 4 * k) f vl ls' ∧ OW W wb vw ls
/-- What its region reads. -/
def ApS (W : World) (eb xv p : Nat) (V S T : Int) (x : E1) : Prop := EdB W eb V S T p ∧ Blk W xv 79 #[.int .i64 (x.s : Int), .int .i64 (x.u : Int), .int .i64 (x.v : Int), .int .i64 (x.l : Int), .bool x.t]
theorem ApS.mk' {W : World} {eb xv p : Nat} {V S T : Int} {x : E1} (h1 : EdB W eb V S T p) (h2 : Blk W xv 79 #[.int .i64 (x.s : Int), .int .i64 (x.u : Int), .int .i64 (x.v : Int), .int .i64 (x.l : Int), .bool x.t]) : ApS W eb xv p V S T x := ⟨h1, h2⟩
theorem ApS.rule (eb xv p : Nat) (V S T : Int) (x : E1) : ∀ W : World, ApS W eb xv p V S T x → (W.cell? ⟨eb, 0, none⟩ = some (.int .i64 V) ∧ W.cell? ⟨eb, 1, none⟩ = some (.int .i64 S) ∧ W.cell? ⟨eb, 2, none⟩ = some (.int .i64 T) ∧ W.cell? ⟨eb, 3, none⟩ = some (.iface 95 (pmV p))) ∧
    (W.cell? ⟨xv, 0, none⟩ = some (.int .i64 (x.s : Int)) ∧ W.cell? ⟨xv, 1, none⟩ = some (.int .i64 (x.u : Int)) ∧ W.cell? ⟨xv, 2, none⟩ = some (.int .i64 (x.v : Int)) ∧ W.cell? ⟨xv, 3, none⟩ = some (.int .i64 (x.l : Int)) ∧ W.cell? ⟨xv, 4, none⟩ = some (.bool x.t)) :=
  fun _ h => ⟨h.1.cells, h.2.cell 0, h.2.cell 1, h.2.cell 2, h.2.cell 3, h.2.cell 4⟩
section
variable {V S T : Int} {oa : Option Addr} {ol oc : Nat} {fo : Nat → O11}
set_option maxHeartbeats 16000000 in
theorem lapart11 (kd2 s2 u2 v2 l2 : Int) (t2 : Bool) (w : World) (hO : IsO11 w oa ol fo) :
    Calls Try.prog 6 #[vL V S T, .slice oa ol oc, vO11 kd2 s2 u2 v2 l2 t2] w fun e w' => e = .returned (.bool true) ∧ Below w.heap.size w w' := by
  have HO0 := Lib.hid hO
  clear hO
  have HB1 : Hid (Below w.heap.size w ((w.alloc (.cells #[.int .i64 V, .int .i64 S, .int .i64 T] 23)).alloc (.cells #[.int .i64 kd2, .int .i64 s2, .int .i64 u2, .int .i64 v2, .int .i64 l2, .bool t2] 72))) := Lib.hid (((Below.refl _ _).alloc (Nat.le_refl _) _).alloc (by simp) _)
  have HL1 : Hid (Blk ((w.alloc (.cells #[.int .i64 V, .int .i64 S, .int .i64 T] 23)).alloc (.cells #[.int .i64 kd2, .int .i64 s2, .int .i64 u2, .int .i64 v2, .int .i64 l2, .bool t2] 72)) w.heap.size 23 #[.int .i64 V, .int .i64 S, .int .i64 T]) := Lib.hid ((Blk.new _ _ _).alloc _)
  have HX1 : Hid (Blk ((w.alloc (.cells #[.int .i64 V, .int .i64 S, .int .i64 T] 23)).alloc (.cells #[.int .i64 kd2, .int .i64 s2, .int .i64 u2, .int .i64 v2, .int .i64 l2, .bool t2] 72)) (w.heap.size + 1) 72 #[.int .i64 kd2, .int .i64 s2, .int .i64 u2, .int .i64 v2, .int .i64 l2, .bool t2]) := Lib.hid (new_next _ _ _ _ _)
  go_enter Try.func6, Try.ntmps6
  go_wp2_with fail
  generalize w.heap.size + 1 = xb at HX1 ⊢
  generalize w.heap.size = lb at HL1 ⊢
  generalize ((w.alloc (.cells #[.int .i64 V, .int .i64 S, .int .i64 T] 23)).alloc (.cells #[.int .i64 kd2, .int .i64 s2, .int .i64 u2, .int .i64 v2, .int .i64 l2, .bool t2] 72)) = W1 at HB1 HL1 HX1 ⊢
  refine (right_any11 V S T _).mono ?_; rintro e w2 ⟨rfl, hb2⟩
  have HB2 := Lib.hid (HB1.out.trans (hb2.mono HB1.out.size))
  have HL2 := Lib.hid (HL1.out.below hb2 HL1.out.lt)
  have HX2 := Lib.hid (HX1.out.below hb2 HX1.out.lt)
  clear HB1 HL1 hb2 HX1
  have AWK : ∀ e w3, (e = Ending.returned (.bool true) ∧ Below w2.heap.size w2 w3) → e = .returned (.bool true) ∧ Below w.heap.size w w3 := fun e w3 h => ⟨h.1, HB2.out.trans (h.2.mono HB2.out.size)⟩
  cases hr : rgt11 V S T
  · go_wp2_with fail
    refine (awake_any11 _).mono ?_; rintro e w3 ⟨rfl, hb3⟩
    have HB3 := Lib.hid (HB2.out.trans (hb3.mono HB2.out.size))
    go_wp2_with fail
    go_ret
    exact ⟨rfl, HB3.out⟩
  have HG := Lib.hid (rgt11_yes hr)
  clear hr
  by_cases hol : ol ≤ 60
  rotate_left
  · have holI : ¬ (ol : Int) ≤ 60 := by omega
    go_wp2_with fail
    refine (awake_any11 _).mono ?_; rintro e w3 ⟨rfl, hb3⟩
    have HB3 := Lib.hid (HB2.out.trans (hb3.mono HB2.out.size))
    go_wp2_with fail
    go_ret
    exact ⟨rfl, HB3.out⟩
  have holI : (ol : Int) ≤ 60 := by omega
  have HOL := Lib.hid hol
  clear hol AWK
  obtain ⟨a0, a1, a2⟩ : w2.cell? ⟨lb, 0, none⟩ = some (.int .i64 V) ∧ w2.cell? ⟨lb, 1, none⟩ = some (.int .i64 S) ∧ w2.cell? ⟨lb, 2, none⟩ = some (.int .i64 T) := ⟨HL2.out.cell 0, HL2.out.cell 1, HL2.out.cell 2⟩
  have alt := HL2.out.lt
  go_wp2_with fail
  refine (begun_any11 HG.out.1).mono ?_; rintro e w3 ⟨p, gb, rfl, hM, hB, hp, hg⟩
  have HM3 := Lib.hid hM
  have HL3 := Lib.hid (HL2.out.below hB HL2.out.lt)
  have HB3 := Lib.hid hB
  have HPG := Lib.hid (And.intro hp hg)
  clear hM hB hp hg a0 a1 a2 alt
  obtain ⟨a0, a1, a2⟩ : w3.cell? ⟨lb, 0, none⟩ = some (.int .i64 V) ∧ w3.cell? ⟨lb, 1, none⟩ = some (.int .i64 S) ∧ w3.cell? ⟨lb, 2, none⟩ = some (.int .i64 T) := ⟨HL3.out.cell 0, HL3.out.cell 1, HL3.out.cell 2⟩
  have alt := HL3.out.lt
  go_wp2_with fail
  clear a0 a1 a2 alt
  have HB4 : Hid (Below w3.heap.size w3 ((w3.alloc (.cells #[.int .i64 V, .int .i64 S, .int .i64 T, .iface 95 (pmV p)] 64)).alloc (.cells #[.int .i64 V, .int .i64 S, .int .i64 T, .int .i64 V, .int .i64 S, .int .i64 T, .iface 95 (pmV p), .slice none 0 0] 70))) := Lib.hid (((Below.refl _ _).alloc (Nat.le_refl _) _).alloc (by simp) _)
  have HQ4 : Hid (PB11 ((w3.alloc (.cells #[.int .i64 V, .int .i64 S, .int .i64 T, .iface 95 (pmV p)] 64)).alloc (.cells #[.int .i64 V, .int .i64 S, .int .i64 T, .int .i64 V, .int .i64 S, .int .i64 T, .iface 95 (pmV p), .slice none 0 0] 70)) (w3.heap.size + 1) V S T p (.slice none 0 0)) := Lib.hid (new_next _ _ _ _ _)
  have HE4 : Hid (Blk ((w3.alloc (.cells #[.int .i64 V, .int .i64 S, .int .i64 T, .iface 95 (pmV p)] 64)).alloc (.cells #[.int .i64 V, .int .i64 S, .int .i64 T, .int .i64 V, .int .i64 S, .int .i64 T, .iface 95 (pmV p), .slice none 0 0] 70)) w3.heap.size 64 #[.int .i64 V, .int .i64 S, .int .i64 T, .iface 95 (pmV p)]) := Lib.hid ((Blk.new _ _ _).alloc _)
  have HEM := Lib.hid (HM3.out.below HB4.out)
  have HLL := Lib.hid (HL3.out.below HB4.out HL3.out.lt)
  have HBQ : Hid (w2.heap.size ≤ w3.heap.size + 1) := Lib.hid (Nat.le_succ_of_le HB3.out.size)
  have HW : Hid (Below w.heap.size w ((w3.alloc (.cells #[.int .i64 V, .int .i64 S, .int .i64 T, .iface 95 (pmV p)] 64)).alloc (.cells #[.int .i64 V, .int .i64 S, .int .i64 T, .int .i64 V, .int .i64 S, .int .i64 T, .iface 95 (pmV p), .slice none 0 0] 70))) := Lib.hid (HB2.out.trans ((HB3.out.trans (HB4.out.mono HB3.out.size)).mono HB2.out.size))
  have HLT : Hid (lb < w2.heap.size) := Lib.hid HL2.out.lt
  have HXX := Lib.hid ((HX2.out.below HB3.out HX2.out.lt).below HB4.out (HX2.out.below HB3.out HX2.out.lt).lt)
  have HXLT : Hid (xb < w2.heap.size) := Lib.hid HX2.out.lt
  have HWS : Hid (w.heap.size ≤ w2.heap.size) := Lib.hid HB2.out.size
  clear HM3 HL3 HB4 HB3 HL2 HB2 HX2
  generalize w3.heap.size + 1 = q at HQ4 HBQ ⊢
  generalize w3.heap.size = eb at HE4 ⊢
  generalize (w3.alloc (.cells #[.int .i64 V, .int .i64 S, .int .i64 T, .iface 95 (pmV p)] 64)).alloc (.cells #[.int .i64 V, .int .i64 S, .int .i64 T, .int .i64 V, .int .i64 S, .int .i64 T, .iface 95 (pmV p), .slice none 0 0] 70) = W4 at HQ4 HE4 HEM HLL HW HXX ⊢
  generalize w2.heap.size = base at HPG HBQ HLT HWS HXLT
  have HRel : Hid (Lp11 W4 base q V S T p gb (cellsE V S T) 4 ol (.int .i64 0) W4) := Lib.hid ⟨0, zeroF, _, [], Nat.zero_le _, rfl, ⟨⟨HQ4.out, HEM.out, OW.nil _ _, HBQ.out, HPG.out.1, HPG.out.2⟩, Below.refl _ _, fun _ _ h => h⟩, ER.nil fun _ => rfl, Nat.le_refl _⟩
  clear HQ4 HEM HBQ
  go_loopw [40] (fun i wr => Lp11 W4 base q V S T p gb (cellsE V S T) 4 ol i wr) (fun i _ => ol - (intOf i).toNat)
  case atStart => exact HRel.out
  case round =>
    clear HRel
    obtain ⟨k, f, vl, ls, hk, rfl, hL, hE, hlen⟩ := hrel
    have HL := Lib.hid hL
    have HE := Lib.hid hE
    have HN := Lib.hid hlen
    have HBW := Lib.hid (HW.out.trans (hL.be.mono HWS.out))
    clear hL hE hlen
    by_cases hkl : k < ol
    · obtain ⟨ob, off, rfl, hcell⟩ := HO0.out (by omega)
      have hc := hcell k hkl
      obtain ⟨o, ho⟩ : ∃ o, fo k = o := ⟨_, rfl⟩
      rw [ho] at hc
      obtain ⟨kd, s, u, v, l, t⟩ := o
      have c0 := cell_later HBW.out hc.1
      have c1 := cell_later HBW.out hc.2.1
      have c2 := cell_later HBW.out hc.2.2.1
      have c3 := cell_later HBW.out hc.2.2.2.1
      have c4 := cell_later HBW.out hc.2.2.2.2.1
      have c5 := cell_later HBW.out hc.2.2.2.2.2
      have hkI : (k : Int) < (ol : Int) := by omega
      have hk0 : (0 : Int) ≤ (k : Int) := by omega
      have HM9 : Hid (4 * k ≤ 800000) := Lib.hid (by have := HOL.out; omega)
      have HN9 : Hid (ls.length ≤ 60) := Lib.hid (by have := HOL.out; have := HN.out; omega)
      have HLa := Lib.hid (HL.out.below ((Below.refl _ _).alloc (Nat.le_refl _) (.cells #[.int .i64 kd, .int .i64 s, .int .i64 u, .int .i64 v, .int .i64 l, .bool t] 72)))
      clear hc ho hcell HL
      go_wp2_with fail
      refine (lstep11 HLa.out HE.out (Nat.le_trans HN9.out (by omega)) HM9.out).mono ?_
      rintro e w5 ⟨rfl, f', vl', ls', hL5, hE5, hl5, _⟩
      have HL5 := Lib.hid hL5
      have HE5 := Lib.hid hE5
      have HN5 := Lib.hid hl5
      clear hL5 hE5 hl5 HLa HE c0 c1 c2 c3 c4 c5
      go_wp2_with fail
      exact ⟨⟨k + 1, f', vl', ls', hkl, by simp, by rw [show 4 * (k + 1) = 4 * k + 4 by omega]; exact HL5.out, HE5.out, by have := HN5.out; have := HN.out; omega⟩, by simp [intOf]; omega⟩
    · have ek : ol = k := by omega
      subst ek
      have hkI : ¬ (ol : Int) < (ol : Int) := by omega
      clear hk hkl
      obtain ⟨n, hn⟩ : ∃ n, ls.length = n := ⟨_, rfl⟩
      have HNN := Lib.hid hn
      have nI : (n : Int) ≤ 60 := by have := HN.out; have := HOL.out; omega
      clear hn
      obtain ⟨y0, y1, y2, y3, y4, y5, y6, y7⟩ := HL.out.pw.pq.cells
      have qlt := HL.out.pw.pq.lt
      go_wp2_with (at_builtin; go_loud (refine wpList_append_ow_all (l := []) (l2 := ls) rfl _ _ rfl rfl (OW.empty wr) rfl (HL.out.pw.ow.alloc _) (by have := HNN.out; simp; omega) (by simp) ?_))
      intro vw w6 hO6 hg6
      have HB6 := Lib.hid (((Below.refl _ _).alloc (Nat.le_refl _) (.cells #[] 79)).grown hg6 (by simp) (fun r hr => ((OW.empty wr).lt r hr).1))
      have HL6 := Lib.hid (HL.out.below HB6.out)
      have HO6 := Lib.hid hO6
      have HVL := Lib.hid (fun r hr => (HL.out.pw.ow.lt r hr).2)
      clear hg6 hO6 y0 y1 y2 y3 y4 y5 y6 y7 qlt
      obtain ⟨aw, cw, rfl⟩ := HO6.out.slice
      have HX6 := Lib.hid (HXX.out.below HL6.out.be HXLT.out)
      have x0 := HX6.out.cell 0
      have x1 := HX6.out.cell 1
      have x2 := HX6.out.cell 2
      have x3 := HX6.out.cell 3
      have x4 := HX6.out.cell 4
      have x5 := HX6.out.cell 5
      have xlt := HX6.out.lt
      go_wp2_with fail
      refine (step_any11 HL6.out.pw HE.out (by have := HNN.out; omega) (by have := HOL.out; omega)).mono ?_
      rintro e w7 ⟨rfl, f', vl', ls', hP7, hE7, hl7, hk7, hb7, hke, hkf⟩
      have HE7 := Lib.hid hE7
      have HK7 := Lib.hid hk7
      have HL7 : Hid (LW11 W4 w7 base q V S T p gb (cellsE V S T) (4 * ol + 4) f' vl' ls') := Lib.hid ⟨hP7, HL6.out.be.trans hb7, fun i cs hz => hke i cs (HL6.out.ke i cs hz)⟩
      have HO7 : Hid (OW w7 wr.heap.size (.slice aw ls.length cw) ls) := Lib.hid (HO6.out.kept_of fun i hi => by
        obtain ⟨hge, cs, hz⟩ := HO6.out.own i hi
        refine (hkf i cs hz fun v hv e => ?_).trans hz.symm
        have h7 := (Blk.cell HL6.out.pw.pq 7)
        rw [h7] at hv
        injection hv with hv
        have h9 : vl = v := hv
        subst h9
        have := HVL.out i e
        omega)
      have HX7 := Lib.hid (HXX.out.below HL7.out.be HXLT.out)
      clear hP7 hE7 hl7 hk7 hb7 hke hkf HL6 HO6 HX6 HB6 HVL HL x0 x1 x2 x3 x4 x5 xlt HBW
      obtain ⟨wb, hwb⟩ : ∃ b, wr.heap.size = b := ⟨_, rfl⟩
      rw [hwb] at HO7
      clear hwb
      rw [HNN.out] at HO7 ⊢
      have HRel2 : Hid (Ap11 W4 base q V S T p gb (cellsE V S T) (4 * ol + 4) n f' vl' ls' wb (.slice aw n cw) ls (.int .i64 0) w7) := Lib.hid ⟨0, Nat.zero_le _, rfl, HL7.out, HO7.out⟩
      obtain ⟨a, ha⟩ : ∃ a, min u2 v2 = a := ⟨_, rfl⟩
      obtain ⟨b, hb9⟩ : ∃ a, max u2 v2 = a := ⟨_, rfl⟩
      have mI : (if v2 < u2 then v2 else u2) = a := by split <;> omega
      have xI : (if u2 < v2 then v2 else u2) = b := by split <;> omega
      have HAB := Lib.hid (And.intro ha hb9)
      clear ha hb9 HL7 HO7 HX7
      go_wp2_with fail
      go_loopw [59] (fun i wr => Ap11 W4 base q V S T p gb (cellsE V S T) (4 * ol + 4) n f' vl' ls' wb (.slice aw n cw) ls i wr) (fun i _ => n - (intOf i).toNat)
      case atStart => exact HRel2.out
      case round =>
        clear HRel2
        obtain ⟨k, hk, rfl, hL, hO⟩ := hrel
        have HL := Lib.hid hL
        have HO := Lib.hid hO
        have HBW := Lib.hid (HW.out.trans (hL.be.mono HWS.out))
        clear hL hO
        by_cases hkn : k < n
        · obtain ⟨x, hx⟩ : ∃ x, ls[k]? = some x := ⟨_, List.getElem?_eq_getElem (by have := HNN.out; omega)⟩
          have HX := Lib.hid (List.mem_of_getElem? hx)
          have HKN : Hid (k < n) := Lib.hid hkn
          have HMB : Hid (4 * ol + 4 + 4 * k ≤ 800000) := Lib.hid (by have := HOL.out; omega)
          obtain ⟨g, c9, e, _, glt, _, z0, z1, z2, z3, z4⟩ := HO.out.at hx
          injection e with e1 e2 e3
          subst e1 e3
          have kI : (k : Int) < (n : Int) := by omega
          have k0 : (0 : Int) ≤ (k : Int) := by omega
          have HXB := Lib.hid (HXX.out.below HL.out.be HXLT.out)
          have x0 := HXB.out.cell 0
          have x1 := HXB.out.cell 1
          have x2 := HXB.out.cell 2
          have x3 := HXB.out.cell 3
          have x4 := HXB.out.cell 4
          have x5 := HXB.out.cell 5
          have xlt := HXB.out.lt
          have hxb : ∀ W : World, W.heap.size = W.heap.size := fun _ => rfl
          clear hx e2 hxb
          have HL1 := Lib.hid (HL.out.below ((Below.refl _ _).alloc (Nat.le_refl _) (.cells #[.int .i64 (x.s : Int), .int .i64 (x.u : Int), .int .i64 (x.v : Int), .int .i64 (x.l : Int), .bool x.t] 79)))
          have HO1 := Lib.hid (HO.out.alloc (.cells #[.int .i64 (x.s : Int), .int .i64 (x.u : Int), .int .i64 (x.v : Int), .int .i64 (x.l : Int), .bool x.t] 79))
          have HX1 : Hid (Blk (wr.alloc (.cells #[.int .i64 (x.s : Int), .int .i64 (x.u : Int), .int .i64 (x.v : Int), .int .i64 (x.l : Int), .bool x.t] 79)) wr.heap.size 79 #[.int .i64 (x.s : Int), .int .i64 (x.u : Int), .int .i64 (x.v : Int), .int .i64 (x.l : Int), .bool x.t]) := Lib.hid (Blk.new _ _ _)
          have HE1 := Lib.hid (HL1.out.ke _ _ HE4.out)
          by_cases qs : (x.s : Int) = s2
          · have q0 : ((x.s : Int) == s2) = true := beq_iff_eq.2 qs
            clear qs HL HO
            go_wp2_with fail
            exact ⟨⟨k + 1, HKN.out, by simp, HL1.out.more (by omega), HO1.out⟩, by simp [intOf]; have := HKN.out; omega⟩
          have q0 : ((x.s : Int) == s2) = false := beq_eq_false_iff_ne.2 qs
          have HMEM : ¬ ((x.u : Int) = a ∧ (x.v : Int) = b) → x ∈ ls' := fun h => HK7.out x HX.out qs (by rw [HAB.out.1, HAB.out.2]; exact h)
          have HMM := Lib.hid HMEM
          clear HMEM qs
          by_cases qu : (x.u : Int) = a
          · have q1 : ((x.u : Int) == a) = true := beq_iff_eq.2 qu
            by_cases qv : (x.v : Int) = b
            · have q2 : ((x.v : Int) == b) = true := beq_iff_eq.2 qv
              clear qu qv HL HO
              go_wp2_with fail
              exact ⟨⟨k + 1, HKN.out, by simp, HL1.out.more (by omega), HO1.out⟩, by simp [intOf]; have := HKN.out; omega⟩
            have q2 : ((x.v : Int) == b) = false := beq_eq_false_iff_ne.2 qv
            have HIN := Lib.hid (HMM.out fun h => qv h.2)
            clear qu qv HMM
            have HEB := Lib.hid (HL.out.ke _ _ HE4.out)
            have b0 := HEB.out.cell 0
            have b1 := HEB.out.cell 1
            have b2 := HEB.out.cell 2
            have b3 := HEB.out.cell 3
            have blt := HEB.out.lt
            clear HL HO
            go_wp2_with fail
            clear q0 q1 q2 x0 x1 x2 x3 x4 x5 xlt z0 z1 z2 z3 z4 glt b0 b1 b2 b3 blt HEB
            generalize wr.alloc (.cells #[.int .i64 (x.s : Int), .int .i64 (x.u : Int), .int .i64 (x.v : Int), .int .i64 (x.l : Int), .bool x.t] 79) = W5 at HL1 HO1 HX1 HE1 ⊢
            generalize wr.heap.size = xv at HX1 ⊢
            obtain ⟨ok1, ok2, ok3, ok4⟩ := HE7.out.ok x HIN.out
            refine (find_some HL1.out.pw.em HE7.out (u := x.u) (v := x.v) (by omega) ok2 (by omega) HIN.out ⟨by omega, by omega⟩ (by have := HMB.out; omega)).mono ?_; rintro e w8 ⟨rfl, A8, O8⟩
            have HX8 := Lib.hid (Blk.em HX1.out HL1.out.pw.em O8 (by decide) (by decide))
            have HO8 := Lib.hid (HO1.out.em HL1.out.pw.em O8)
            have HL8 := Lib.hid (HL1.out.next2 A8 O8)
            have HE8 := Lib.hid (HL8.out.ke _ _ HE4.out)
            have HAt := Lib.hid (HE7.out.at HIN.out)
            have n1 : ((x.s : Int) != (x.s : Int)) = false := bne_self_eq_false _
            have n2 : (x.t != x.t) = false := bne_self_eq_false _
            have b1 : ((x.u : Int) == (x.u : Int)) = true := beq_self_eq_true _
            have b2 : ((x.v : Int) == (x.v : Int)) = true := beq_self_eq_true _
            have b3 : ((x.l : Int) == (x.l : Int)) = true := beq_self_eq_true _
            have b4 : (x.t == x.t) = true := beq_self_eq_true _
            clear HL1 HO1 HX1 HE1 A8 O8 ok1 ok2 ok3 ok4
            have HS0 := ApS.rule eb xv p V S T x w8.drew ⟨HE8.out, HX8.out⟩
            have blt := HE8.out.lt
            have zlt := HX8.out.lt
            go_upto_region 19 with fail
            have HLd := Lib.hid HL8.out.drew
            have HOd := Lib.hid HO8.out.drew
            have HXd := Lib.hid HX8.out.drew
            refine wp_region_held_drew (S := (fun W => (W.cell? ⟨eb, 0, none⟩ = some (.int .i64 V) ∧ W.cell? ⟨eb, 1, none⟩ = some (.int .i64 S) ∧ W.cell? ⟨eb, 2, none⟩ = some (.int .i64 T) ∧ W.cell? ⟨eb, 3, none⟩ = some (.iface 95 (pmV p))) ∧ (W.cell? ⟨xv, 0, none⟩ = some (.int .i64 (x.s : Int)) ∧ W.cell? ⟨xv, 1, none⟩ = some (.int .i64 (x.u : Int)) ∧ W.cell? ⟨xv, 2, none⟩ = some (.int .i64 (x.v : Int)) ∧ W.cell? ⟨xv, 3, none⟩ = some (.int .i64 (x.l : Int)) ∧ W.cell? ⟨xv, 4, none⟩ = some (.bool x.t)))) (by kernel_rfl) ?_ (fun hHeld => ?_)
            · exact HS0
            refine tkN (i := 0) (v := ?_) rfl ?_ ?_
            rotate_left
            · (intro w hSw; (try dsimp only at hSw); go_simp; try with_reducible rfl)
            try simp only [Act.put, sq1, sq2, sq3, sq4, sq5]
            refine tkN (i := 1) (v := ?_) rfl ?_ ?_
            rotate_left
            · (intro w hSw; (try dsimp only at hSw); go_simp; try with_reducible rfl)
            try simp only [Act.put, sq1, sq2, sq3, sq4, sq5, sq6]
            refine tkN (i := 2) (v := ?_) rfl ?_ ?_
            rotate_left
            · (intro w hSw; (try dsimp only at hSw); go_simp; try with_reducible rfl)
            try simp only [Act.put, sq1, sq2, sq3, sq4, sq5, sq6]
            refine tkN (i := 3) (v := ?_) rfl ?_ ?_
            rotate_left
            · (intro w hSw; (try dsimp only at hSw); go_simp; try with_reducible rfl)
            try simp only [Act.put, sq1, sq2, sq3, sq4, sq5, sq6]
            refine tkN (i := 4) (v := ?_) rfl ?_ ?_
            rotate_left
            · (intro w hSw; (try dsimp only at hSw); go_simp; try with_reducible rfl)
            try simp only [Act.put, sq1, sq2, sq3, sq4, sq5, sq6]
            refine tkN (i := 5) (v := ?_) rfl ?_ ?_
            rotate_left
            · (intro w hSw; (try dsimp only at hSw); go_simp; try with_reducible rfl)
            try simp only [Act.put, sq1, sq2, sq3, sq4, sq5, sq6]
            refine tkN (i := 6) (v := ?_) rfl ?_ ?_
            rotate_left
            · (intro w hSw; (try dsimp only at hSw); go_simp; try with_reducible rfl)
            try simp only [Act.put, sq1, sq2, sq3, sq4, sq5, sq6]
            refine tkN (i := 7) (v := ?_) rfl ?_ ?_
            rotate_left
            · (intro w hSw; (try dsimp only at hSw); go_simp; try with_reducible rfl)
            try simp only [Act.put, sq1, sq2, sq3, sq4, sq5, sq6]
            refine tkN (i := 8) (v := ?_) rfl ?_ ?_
            rotate_left
            · (intro w hSw; (try dsimp only at hSw); go_simp; try with_reducible rfl)
            try simp only [Act.put, sq1, sq2, sq3, sq4, sq5, sq6]
            refine tkN (i := 9) (v := ?_) rfl ?_ ?_
            rotate_left
            · (intro w hSw; (try dsimp only at hSw); go_simp; try with_reducible rfl)
            try simp only [Act.put, sq1, sq2, sq3, sq4, sq5, sq6]
            refine tkN (i := 10) (v := ?_) rfl ?_ ?_
            rotate_left
            · (intro w hSw; (try dsimp only at hSw); go_simp; try with_reducible rfl)
            try simp only [Act.put, sq1, sq2, sq3, sq4, sq5, sq6]
            refine tkN (i := 11) (v := ?_) rfl ?_ ?_
            rotate_left
            · (intro w hSw; (try dsimp only at hSw); go_simp; try with_reducible rfl)
            try simp only [Act.put, sq1, sq2, sq3, sq4, sq5, sq6]
            refine tkN (i := 12) (v := ?_) rfl ?_ ?_
            rotate_left
            · (intro w hSw; (try dsimp only at hSw); go_simp; try with_reducible rfl)
            try simp only [Act.put, sq1, sq2, sq3, sq4, sq5, sq6]
            refine tkN (i := 13) (v := ?_) rfl ?_ ?_
            rotate_left
            · (intro w hSw; (try dsimp only at hSw); go_simp; try with_reducible rfl)
            try simp only [Act.put, sq1, sq2, sq3, sq4, sq5, sq6]
            refine tkN (i := 14) (v := ?_) rfl ?_ ?_
            rotate_left
            · (intro w hSw; (try dsimp only at hSw); go_simp; try with_reducible rfl)
            try simp only [Act.put, sq1, sq2, sq3, sq4, sq5, sq6]
            refine tkN (i := 15) (v := ?_) rfl ?_ ?_
            rotate_left
            · (intro w hSw; (try dsimp only at hSw); go_simp; try with_reducible rfl)
            try simp only [Act.put, sq1, sq2, sq3, sq4, sq5, sq6]
            refine tkN (i := 16) (v := ?_) rfl ?_ ?_
            rotate_left
            · (intro w hSw; (try dsimp only at hSw); go_simp; try with_reducible rfl)
            try simp only [Act.put, sq1, sq2, sq3, sq4, sq5, sq6]
            refine tkN (i := 17) (v := ?_) rfl ?_ ?_
            rotate_left
            · (intro w hSw; (try dsimp only at hSw); go_simp; try with_reducible rfl)
            try simp only [Act.put, sq1, sq2, sq3, sq4, sq5, sq6]
            refine tkN (i := 18) (v := ?_) rfl ?_ ?_
            rotate_left
            · (intro w hSw; (try dsimp only at hSw); go_simp; try with_reducible rfl)
            try simp only [Act.put, sq1, sq2, sq3, sq4, sq5, sq6]
            refine tkN (i := 20) (v := ?_) rfl ?_ ?_
            rotate_left
            · (intro w hSw; (try dsimp only at hSw); go_simp; try with_reducible rfl)
            try simp only [Act.put, sq1, sq2, sq3, sq4, sq5, sq6]
            refine tkN (i := 21) (v := ?_) rfl ?_ ?_
            rotate_left
            · (intro w hSw; (try dsimp only at hSw); go_simp; try with_reducible rfl)
            try simp only [Act.put, sq1, sq2, sq3, sq4, sq5, sq6]
            refine wpAnyH_ready (rs := [19]) (by kernel_rfl) (by simp) ?_
            refine AllReadyH.cons rfl (fun K hK => ?_) ?_
            rotate_left
            · exact AllReadyH.nil
            go_simp
            (refine (get_yes11 HLd.out.pw.em HAt.out (by have := HMB.out; omega)).mono ?_); rintro e w9 ⟨rfl, A9, O9⟩; have HX9 := Lib.hid (Blk.em HXd.out HLd.out.pw.em O9 (by decide) (by decide)); have HO9 := Lib.hid (HOd.out.em HLd.out.pw.em O9); have HL9 := Lib.hid (HLd.out.next2 A9 O9); have HE9 := Lib.hid (HL9.out.ke _ _ HE4.out)
            go_wp2_with fail
            refine hK.out _ _ ?_ (fun hHeld => ?_)
            · (try dsimp only); (first | (with_reducible assumption) | exact ApS.rule eb xv p V S T x _ ⟨HE9.out, HX9.out⟩)
            clear hK K
            try simp only [Act.put, sq1, sq2, sq3, sq4, sq5, sq6]
            refine tkN (i := 22) (v := ?_) rfl ?_ ?_
            rotate_left
            · (intro w hSw; (try dsimp only at hSw); go_simp; try with_reducible rfl)
            try simp only [Act.put, sq1, sq2, sq3, sq4, sq5, sq6]
            refine tkN (i := 23) (v := ?_) rfl ?_ ?_
            rotate_left
            · (intro w hSw; (try dsimp only at hSw); go_simp; try with_reducible rfl)
            try simp only [Act.put, sq1, sq2, sq3, sq4, sq5, sq6]
            refine wpAnyH_done (by kernel_rfl) ?_ _
            clear HS0 HLd HOd HXd HL8 HO8 HX8 HE8
            go_wp2_with fail
            exact ⟨⟨k + 1, HKN.out, by simp, HL9.out.more (by omega), HO9.out⟩, by simp [intOf]; have := HKN.out; omega⟩
          have q1 : ((x.u : Int) == a) = false := beq_eq_false_iff_ne.2 qu
          have HIN := Lib.hid (HMM.out fun h => qu h.1)
          clear qu HMM
          have HEB := Lib.hid (HL.out.ke _ _ HE4.out)
          have b0 := HEB.out.cell 0
          have b1 := HEB.out.cell 1
          have b2 := HEB.out.cell 2
          have b3 := HEB.out.cell 3
          have blt := HEB.out.lt
          clear HL HO
          go_wp2_with fail
          clear q0 q1 x0 x1 x2 x3 x4 x5 xlt z0 z1 z2 z3 z4 glt b0 b1 b2 b3 blt HEB
          generalize wr.alloc (.cells #[.int .i64 (x.s : Int), .int .i64 (x.u : Int), .int .i64 (x.v : Int), .int .i64 (x.l : Int), .bool x.t] 79) = W5 at HL1 HO1 HX1 HE1 ⊢
          generalize wr.heap.size = xv at HX1 ⊢
          obtain ⟨ok1, ok2, ok3, ok4⟩ := HE7.out.ok x HIN.out
          refine (find_some HL1.out.pw.em HE7.out (u := x.u) (v := x.v) (by omega) ok2 (by omega) HIN.out ⟨by omega, by omega⟩ (by have := HMB.out; omega)).mono ?_; rintro e w8 ⟨rfl, A8, O8⟩
          have HX8 := Lib.hid (Blk.em HX1.out HL1.out.pw.em O8 (by decide) (by decide))
          have HO8 := Lib.hid (HO1.out.em HL1.out.pw.em O8)
          have HL8 := Lib.hid (HL1.out.next2 A8 O8)
          have HE8 := Lib.hid (HL8.out.ke _ _ HE4.out)
          have HAt := Lib.hid (HE7.out.at HIN.out)
          have n1 : ((x.s : Int) != (x.s : Int)) = false := bne_self_eq_false _
          have n2 : (x.t != x.t) = false := bne_self_eq_false _
          have b1 : ((x.u : Int) == (x.u : Int)) = true := beq_self_eq_true _
          have b2 : ((x.v : Int) == (x.v : Int)) = true := beq_self_eq_true _
          have b3 : ((x.l : Int) == (x.l : Int)) = true := beq_self_eq_true _
          have b4 : (x.t == x.t) = true := beq_self_eq_true _
          clear HL1 HO1 HX1 HE1 A8 O8 ok1 ok2 ok3 ok4
          have HS0 := ApS.rule eb xv p V S T x w8.drew ⟨HE8.out, HX8.out⟩
          have blt := HE8.out.lt
          have zlt := HX8.out.lt
          go_upto_region 19 with fail
          have HLd := Lib.hid HL8.out.drew
          have HOd := Lib.hid HO8.out.drew
          have HXd := Lib.hid HX8.out.drew
          refine wp_region_held_drew (S := (fun W => (W.cell? ⟨eb, 0, none⟩ = some (.int .i64 V) ∧ W.cell? ⟨eb, 1, none⟩ = some (.int .i64 S) ∧ W.cell? ⟨eb, 2, none⟩ = some (.int .i64 T) ∧ W.cell? ⟨eb, 3, none⟩ = some (.iface 95 (pmV p))) ∧ (W.cell? ⟨xv, 0, none⟩ = some (.int .i64 (x.s : Int)) ∧ W.cell? ⟨xv, 1, none⟩ = some (.int .i64 (x.u : Int)) ∧ W.cell? ⟨xv, 2, none⟩ = some (.int .i64 (x.v : Int)) ∧ W.cell? ⟨xv, 3, none⟩ = some (.int .i64 (x.l : Int)) ∧ W.cell? ⟨xv, 4, none⟩ = some (.bool x.t)))) (by kernel_rfl) ?_ (fun hHeld => ?_)
          · exact HS0
          refine tkN (i := 0) (v := ?_) rfl ?_ ?_
          rotate_left
          · (intro w hSw; (try dsimp only at hSw); go_simp; try with_reducible rfl)
          try simp only [Act.put, sq1, sq2, sq3, sq4, sq5]
          refine tkN (i := 1) (v := ?_) rfl ?_ ?_
          rotate_left
          · (intro w hSw; (try dsimp only at hSw); go_simp; try with_reducible rfl)
          try simp only [Act.put, sq1, sq2, sq3, sq4, sq5, sq6]
          refine tkN (i := 2) (v := ?_) rfl ?_ ?_
          rotate_left
          · (intro w hSw; (try dsimp only at hSw); go_simp; try with_reducible rfl)
          try simp only [Act.put, sq1, sq2, sq3, sq4, sq5, sq6]
          refine tkN (i := 3) (v := ?_) rfl ?_ ?_
          rotate_left
          · (intro w hSw; (try dsimp only at hSw); go_simp; try with_reducible rfl)
          try simp only [Act.put, sq1, sq2, sq3, sq4, sq5, sq6]
          refine tkN (i := 4) (v := ?_) rfl ?_ ?_
          rotate_left
          · (intro w hSw; (try dsimp only at hSw); go_simp; try with_reducible rfl)
          try simp only [Act.put, sq1, sq2, sq3, sq4, sq5, sq6]
          refine tkN (i := 5) (v := ?_) rfl ?_ ?_
          rotate_left
          · (intro w hSw; (try dsimp only at hSw); go_simp; try with_reducible rfl)
          try simp only [Act.put, sq1, sq2, sq3, sq4, sq5, sq6]
          refine tkN (i := 6) (v := ?_) rfl ?_ ?_
          rotate_left
          · (intro w hSw; (try dsimp only at hSw); go_simp; try with_reducible rfl)
          try simp only [Act.put, sq1, sq2, sq3, sq4, sq5, sq6]
          refine tkN (i := 7) (v := ?_) rfl ?_ ?_
          rotate_left
          · (intro w hSw; (try dsimp only at hSw); go_simp; try with_reducible rfl)
          try simp only [Act.put, sq1, sq2, sq3, sq4, sq5, sq6]
          refine tkN (i := 8) (v := ?_) rfl ?_ ?_
          rotate_left
          · (intro w hSw; (try dsimp only at hSw); go_simp; try with_reducible rfl)
          try simp only [Act.put, sq1, sq2, sq3, sq4, sq5, sq6]
          refine tkN (i := 9) (v := ?_) rfl ?_ ?_
          rotate_left
          · (intro w hSw; (try dsimp only at hSw); go_simp; try with_reducible rfl)
          try simp only [Act.put, sq1, sq2, sq3, sq4, sq5, sq6]
          refine tkN (i := 10) (v := ?_) rfl ?_ ?_
          rotate_left
          · (intro w hSw; (try dsimp only at hSw); go_simp; try with_reducible rfl)
          try simp only [Act.put, sq1, sq2, sq3, sq4, sq5, sq6]
          refine tkN (i := 11) (v := ?_) rfl ?_ ?_
          rotate_left
          · (intro w hSw; (try dsimp only at hSw); go_simp; try with_reducible rfl)
          try simp only [Act.put, sq1, sq2, sq3, sq4, sq5, sq6]
          refine tkN (i := 12) (v := ?_) rfl ?_ ?_
          rotate_left
          · (intro w hSw; (try dsimp only at hSw); go_simp; try with_reducible rfl)
          try simp only [Act.put, sq1, sq2, sq3, sq4, sq5, sq6]
          refine tkN (i := 13) (v := ?_) rfl ?_ ?_
          rotate_left
          · (intro w hSw; (try dsimp only at hSw); go_simp; try with_reducible rfl)
          try simp only [Act.put, sq1, sq2, sq3, sq4, sq5, sq6]
          refine tkN (i := 14) (v := ?_) rfl ?_ ?_
          rotate_left
          · (intro w hSw; (try dsimp only at hSw); go_simp; try with_reducible rfl)
          try simp only [Act.put, sq1, sq2, sq3, sq4, sq5, sq6]
          refine tkN (i := 15) (v := ?_) rfl ?_ ?_
          rotate_left
          · (intro w hSw; (try dsimp only at hSw); go_simp; try with_reducible rfl)
          try simp only [Act.put, sq1, sq2, sq3, sq4, sq5, sq6]
          refine tkN (i := 16) (v := ?_) rfl ?_ ?_
          rotate_left
          · (intro w hSw; (try dsimp only at hSw); go_simp; try with_reducible rfl)
          try simp only [Act.put, sq1, sq2, sq3, sq4, sq5, sq6]
          refine tkN (i := 17) (v := ?_) rfl ?_ ?_
          rotate_left
          · (intro w hSw; (try dsimp only at hSw); go_simp; try with_reducible rfl)
          try simp only [Act.put, sq1, sq2, sq3, sq4, sq5, sq6]
          refine tkN (i := 18) (v := ?_) rfl ?_ ?_
          rotate_left
          · (intro w hSw; (try dsimp only at hSw); go_simp; try with_reducible rfl)
          try simp only [Act.put, sq1, sq2, sq3, sq4, sq5, sq6]
          refine tkN (i := 20) (v := ?_) rfl ?_ ?_
          rotate_left
          · (intro w hSw; (try dsimp only at hSw); go_simp; try with_reducible rfl)
          try simp only [Act.put, sq1, sq2, sq3, sq4, sq5, sq6]
          refine tkN (i := 21) (v := ?_) rfl ?_ ?_
          rotate_left
          · (intro w hSw; (try dsimp only at hSw); go_simp; try with_reducible rfl)
          try simp only [Act.put, sq1, sq2, sq3, sq4, sq5, sq6]
          refine wpAnyH_ready (rs := [19]) (by kernel_rfl) (by simp) ?_
          refine AllReadyH.cons rfl (fun K hK => ?_) ?_
          rotate_left
          · exact AllReadyH.nil
          go_simp
          (refine (get_yes11 HLd.out.pw.em HAt.out (by have := HMB.out; omega)).mono ?_); rintro e w9 ⟨rfl, A9, O9⟩; have HX9 := Lib.hid (Blk.em HXd.out HLd.out.pw.em O9 (by decide) (by decide)); have HO9 := Lib.hid (HOd.out.em HLd.out.pw.em O9); have HL9 := Lib.hid (HLd.out.next2 A9 O9); have HE9 := Lib.hid (HL9.out.ke _ _ HE4.out)
          go_wp2_with fail
          refine hK.out _ _ ?_ (fun hHeld => ?_)
          · (try dsimp only); (first | (with_reducible assumption) | exact ApS.rule eb xv p V S T x _ ⟨HE9.out, HX9.out⟩)
          clear hK K
          try simp only [Act.put, sq1, sq2, sq3, sq4, sq5, sq6]
          refine tkN (i := 22) (v := ?_) rfl ?_ ?_
          rotate_left
          · (intro w hSw; (try dsimp only at hSw); go_simp; try with_reducible rfl)
          try simp only [Act.put, sq1, sq2, sq3, sq4, sq5, sq6]
          refine tkN (i := 23) (v := ?_) rfl ?_ ?_
          rotate_left
          · (intro w hSw; (try dsimp only at hSw); go_simp; try with_reducible rfl)
          try simp only [Act.put, sq1, sq2, sq3, sq4, sq5, sq6]
          refine wpAnyH_done (by kernel_rfl) ?_ _
          clear HS0 HLd HOd HXd HL8 HO8 HX8 HE8
          go_wp2_with fail
          exact ⟨⟨k + 1, HKN.out, by simp, HL9.out.more (by omega), HO9.out⟩, by simp [intOf]; have := HKN.out; omega⟩
        · have ek : k = n := by omega
          subst ek
          have kI : ¬ (k : Int) < (k : Int) := by omega
          clear hk hkn HL HO
          go_wp2_with fail
          refine (awake_any11 _).mono ?_; rintro e w9 ⟨rfl, hb9⟩
          have HBE := Lib.hid (HBW.out.trans (hb9.mono HBW.out.size))
          go_wp2_with fail
          go_ret
          exact ⟨rfl, HBE.out⟩
end
end Go.Proofs.Ytahabfjngeicmaa
