/- The law AdjBack. Printed by wip/tools/adl.py. -/
import Derived.Test.YtaooglagddphnaaAdX
import Derived.Carry
namespace Go.Proofs.Ytaooglagddphnaa
open Go.RowKit

set_option maxRecDepth 100000

/-- A play beside the law's own call. -/
structure BK12 (w0 W : World) (base q eb lb xo : Nat) (V S T : Int) (p gb cap m n : Nat) (f : Nat → Int) (mk : Nat → Nat) (ts : List Tp) (bs : List E1) (qq : Nat → Nat → List Nat) (xk xs xu xv xl : Int) : Prop where
  pm : PM12 w0 W base q eb lb V S T p gb cap m n f mk ts bs qq
  fo : Blk W xo 47 #[.int .i64 xk, .int .i64 xs, .int .i64 xu, .int .i64 xv, .int .i64 xl]
def SB12 (W : World) (q eb lb p xo : Nat) (V S T xk xs xu xv xl : Int) : Prop := PB12 W q eb lb V S T p ∧ Blk W xo 47 #[.int .i64 xk, .int .i64 xs, .int .i64 xu, .int .i64 xv, .int .i64 xl]
section
variable {w w' w0 : World} {base q eb lb xo p gb cap m m' n n' : Nat} {V S T : Int} {f f' : Nat → Int} {mk mk' : Nat → Nat} {ts : List Tp} {bs bs' : List E1} {qq qq' : Nat → Nat → List Nat} {xk xs xu xv xl : Int}
theorem BK12.below (h : BK12 w0 w base q eb lb xo V S T p gb cap m n f mk ts bs qq xk xs xu xv xl) (hb : Below w.heap.size w w') : BK12 w0 w' base q eb lb xo V S T p gb cap m n f mk ts bs qq xk xs xu xv xl := ⟨h.pm.below hb, h.fo.below hb h.fo.lt⟩
theorem BK12.drew (h : BK12 w0 w base q eb lb xo V S T p gb cap m n f mk ts bs qq xk xs xu xv xl) : BK12 w0 w.drew base q eb lb xo V S T p gb cap m n f mk ts bs qq xk xs xu xv xl := h.below (Below.refl _ _).drew
theorem BK12.next (h : BK12 w0 w base q eb lb xo V S T p gb cap m n f mk ts bs qq xk xs xu xv xl) (hm : TA w' V S T p gb cap m' f mk ts) (ho : Only p gb w w') : BK12 w0 w' base q eb lb xo V S T p gb cap m' n f mk ts bs qq xk xs xu xv xl := ⟨h.pm.next hm ho, Blk.ta h.fo h.pm.ps.ta ho (by decide) (by decide)⟩
theorem BK12.sb (h : BK12 w0 w base q eb lb xo V S T p gb cap m n f mk ts bs qq xk xs xu xv xl) : SB12 w q eb lb p xo V S T xk xs xu xv xl := ⟨h.pm.ps.pb, h.fo⟩
/-- Behind the play's own calls. -/
theorem BK12.over (h : BK12 w0 w base q eb lb xo V S T p gb cap m n f mk ts bs qq xk xs xu xv xl) (h2 : PM12 w w' base q eb lb V S T p gb cap m' n' f' mk' ts bs' qq') : BK12 w w' base q eb lb xo V S T p gb cap m' n' f' mk' ts bs' qq' xk xs xu xv xl :=
  ⟨h2, h2.ps.kb _ _ _ h.fo (by decide) (by decide)⟩
theorem SB12.rule (q eb lb p xo : Nat) (V S T xk xs xu xv xl : Int) : ∀ W : World, SB12 W q eb lb p xo V S T xk xs xu xv xl → (W.cell? ⟨q, 0, none⟩ = some (.int .i64 V) ∧ W.cell? ⟨q, 1, none⟩ = some (.int .i64 S) ∧ W.cell? ⟨q, 2, none⟩ = some (.int .i64 T) ∧ W.cell? ⟨q, 3, none⟩ = some (.int .i64 V) ∧ W.cell? ⟨q, 4, none⟩ = some (.int .i64 S) ∧ W.cell? ⟨q, 5, none⟩ = some (.int .i64 T) ∧ W.cell? ⟨q, 6, none⟩ = some (.iface 84 (pmV p)) ∧ W.cell? ⟨q, 7, none⟩ = some (.int .i64 1) ∧ W.cell? ⟨q, 8, none⟩ = some (.int .i64 0) ∧ W.cell? ⟨q, 9, none⟩ = some (.int .i64 V) ∧ W.cell? ⟨q, 10, none⟩ = some (.int .i64 S) ∧ W.cell? ⟨q, 11, none⟩ = some (.int .i64 T) ∧ W.cell? ⟨q, 12, none⟩ = some (.iface 84 (pmV p)) ∧ W.cell? ⟨q, 13, none⟩ = some (.map (some eb)) ∧ W.cell? ⟨q, 14, none⟩ = some (.map (some lb))) ∧ (W.cell? ⟨xo, 0, none⟩ = some (.int .i64 xk) ∧ W.cell? ⟨xo, 1, none⟩ = some (.int .i64 xs) ∧ W.cell? ⟨xo, 2, none⟩ = some (.int .i64 xu) ∧ W.cell? ⟨xo, 3, none⟩ = some (.int .i64 xv) ∧ W.cell? ⟨xo, 4, none⟩ = some (.int .i64 xl)) := fun _ h => ⟨h.1.cells, h.2.cell 0, h.2.cell 1, h.2.cell 2, h.2.cell 3, h.2.cell 4⟩
/-- The call's kind is turned. -/
theorem BK12.kind (h : BK12 w0 w base q eb lb xo V S T p gb cap m n f mk ts bs qq xk xs xu xv xl) (y : Int) : BK12 (w.setCell ⟨xo, 0, none⟩ (.int .i64 y)) (w.setCell ⟨xo, 0, none⟩ (.int .i64 y)) base q eb lb xo V S T p gb cap m n f mk ts bs qq y xs xu xv xl := by
  have hx := h.fo
  have h := h.pm
  have hg : w.grownBy (w.setCell ⟨xo, 0, none⟩ (.int .i64 y)) (some xo) := ⟨rfl, rfl, rfl, by simp [World.setCell], fun k hk hne => Below.heap_setCell w ⟨xo, 0, none⟩ _ k (by rintro rfl; exact hne rfl)⟩
  have ne : ∀ {i : Nat} {ty : TypeId} {cs : Array Value}, Blk w i ty cs → 47 ≠ ty → some xo ≠ some i := fun hi ht e => Blk.ne_ hx hi ht (by injection e)
  obtain ⟨_, _, _, B, _⟩ := h.ps.ta.em
  obtain ⟨us, hz, _⟩ := B.cells
  exact ⟨⟨⟨Blk.grown h.ps.pb hg (ne h.ps.pb (by decide)), h.ps.ta.grown hg (ne B.own (by decide)) (ne hz (by decide)), h.ps.fe.keep (hg.block eb h.ps.fe.lt fun e => h.ps.fe.ne_blk hx (by injection e)), h.ps.fl.grown hg (fun e => h.ps.fl.ne_blk hx (by injection e with e; exact e.symm)) (fun i zs hi => ne hi (by decide)), Below.refl _ _, h.ps.bo, fun _ _ _ hz _ _ => hz⟩, h.lq, h.mq, h.lk⟩, hx.set_ 0 _⟩
end
section
variable {V S T : Int} {oa : Option Addr} {ol oc : Nat} {fo : Nat → O12} {xk xs xu xv xl : Int}
set_option maxHeartbeats 16000000 in
theorem lback12 (w : World) (hO : IsO12 w oa ol fo) (hxs : -9223372036854775808 ≤ xs ∧ xs ≤ 9223372036854775807) :
    Calls Try.prog 5 #[vL V S T, .slice oa ol oc, vO12 xk xs xu xv xl] w fun e w' => e = .returned (.bool true) ∧ Below w.heap.size w w' := by
  have HXS := Lib.hid hxs
  clear hxs
  have HO0 := Lib.hid hO
  clear hO
  have hmm := @run_makeMap Try.prog
  have HB1 : Hid (Below w.heap.size w ((w.alloc (.cells #[.int .i64 V, .int .i64 S, .int .i64 T] 23)).alloc (.cells #[.int .i64 xk, .int .i64 xs, .int .i64 xu, .int .i64 xv, .int .i64 xl] 47))) := Lib.hid (((Below.refl _ _).alloc (Nat.le_refl _) _).alloc (by simp) _)
  have HL1 : Hid (Blk ((w.alloc (.cells #[.int .i64 V, .int .i64 S, .int .i64 T] 23)).alloc (.cells #[.int .i64 xk, .int .i64 xs, .int .i64 xu, .int .i64 xv, .int .i64 xl] 47)) w.heap.size 23 #[.int .i64 V, .int .i64 S, .int .i64 T]) := Lib.hid ((Blk.new _ _ _).alloc _)
  have HX1 : Hid (Blk ((w.alloc (.cells #[.int .i64 V, .int .i64 S, .int .i64 T] 23)).alloc (.cells #[.int .i64 xk, .int .i64 xs, .int .i64 xu, .int .i64 xv, .int .i64 xl] 47)) (w.heap.size + 1) 47 #[.int .i64 xk, .int .i64 xs, .int .i64 xu, .int .i64 xv, .int .i64 xl]) := Lib.hid (new_next _ _ _ _ _)
  go_enter Try.func5, Try.ntmps5
  go_wp2_with fail
  have HXO : Hid (w.heap.size ≤ w.heap.size + 1) := Lib.hid (Nat.le_succ _)
  generalize w.heap.size + 1 = xo at HX1 HXO ⊢
  generalize w.heap.size = lo at HL1 ⊢
  generalize ((w.alloc (.cells #[.int .i64 V, .int .i64 S, .int .i64 T] 23)).alloc (.cells #[.int .i64 xk, .int .i64 xs, .int .i64 xu, .int .i64 xv, .int .i64 xl] 47)) = W1 at HB1 HL1 HX1 ⊢
  refine (right_any12 V S T _).mono ?_; rintro e w2 ⟨rfl, hb2⟩
  have HB2 := Lib.hid (HB1.out.trans (hb2.mono HB1.out.size))
  have HL2 := Lib.hid (HL1.out.below hb2 HL1.out.lt)
  have HX2 := Lib.hid (HX1.out.below hb2 HX1.out.lt)
  clear HB1 HL1 hb2 HX1
  cases hr : rgt12 V S T
  · go_wp2_with fail
    refine (awake_any12 _).mono ?_; rintro e w3 ⟨rfl, hb3⟩
    have HB3 := Lib.hid (HB2.out.trans (hb3.mono HB2.out.size))
    go_wp2_with fail
    go_ret
    exact ⟨rfl, HB3.out⟩
  have HG := Lib.hid (rgt12_yes hr)
  clear hr
  by_cases hol : ol ≤ 60
  rotate_left
  · have holI : ¬ (ol : Int) ≤ 60 := by omega
    go_wp2_with fail
    refine (awake_any12 _).mono ?_; rintro e w3 ⟨rfl, hb3⟩
    have HB3 := Lib.hid (HB2.out.trans (hb3.mono HB2.out.size))
    go_wp2_with fail
    go_ret
    exact ⟨rfl, HB3.out⟩
  have holI : (ol : Int) ≤ 60 := by omega
  have HOL := Lib.hid hol
  clear hol
  obtain ⟨a0, a1, a2⟩ : w2.cell? ⟨lo, 0, none⟩ = some (.int .i64 V) ∧ w2.cell? ⟨lo, 1, none⟩ = some (.int .i64 S) ∧ w2.cell? ⟨lo, 2, none⟩ = some (.int .i64 T) := ⟨HL2.out.cell 0, HL2.out.cell 1, HL2.out.cell 2⟩
  have alt := HL2.out.lt
  go_wp2_with fail
  refine (begun_any12 HG.out.1).mono ?_; rintro e w3 ⟨p, gb, rfl, hT, hB, hp, hg⟩
  have HT3 := Lib.hid hT
  have HB3 := Lib.hid hB
  have HL3 := Lib.hid (HL2.out.below hB HL2.out.lt)
  have HX3 := Lib.hid (HX2.out.below hB HX2.out.lt)
  have HPG := Lib.hid (And.intro hp hg)
  clear hT hB hp hg a0 a1 a2 alt
  obtain ⟨a0, a1, a2⟩ : w3.cell? ⟨lo, 0, none⟩ = some (.int .i64 V) ∧ w3.cell? ⟨lo, 1, none⟩ = some (.int .i64 S) ∧ w3.cell? ⟨lo, 2, none⟩ = some (.int .i64 T) := ⟨HL3.out.cell 0, HL3.out.cell 1, HL3.out.cell 2⟩
  have alt := HL3.out.lt
  go_wp2_with fail
  clear a0 a1 a2 alt hmm
  have HP4 := Lib.hid (PM12.start HT3.out HPG.out.1 HPG.out.2 HB3.out.size)
  have HB4 : Hid (Below w3.heap.size w3 ((((w3.alloc (.cells #[.int .i64 V, .int .i64 S, .int .i64 T, .iface 84 (pmV p), .int .i64 1, .int .i64 0, .int .i64 V, .int .i64 S, .int .i64 T, .iface 84 (pmV p)] 38)).alloc (.map #[] 0)).alloc (.map #[] 0)).alloc (.cells #[.int .i64 V, .int .i64 S, .int .i64 T, .int .i64 V, .int .i64 S, .int .i64 T, .iface 84 (pmV p), .int .i64 1, .int .i64 0, .int .i64 V, .int .i64 S, .int .i64 T, .iface 84 (pmV p), .map (some (w3.heap.size + 1)), .map (some (w3.heap.size + 2))] 45))) := Lib.hid (((((Below.refl _ _).alloc (Nat.le_refl _) _).alloc (by simp) _).alloc (by simp; omega) _).alloc (by simp; omega) _)
  have HA4 : Hid (Blk ((((w3.alloc (.cells #[.int .i64 V, .int .i64 S, .int .i64 T, .iface 84 (pmV p), .int .i64 1, .int .i64 0, .int .i64 V, .int .i64 S, .int .i64 T, .iface 84 (pmV p)] 38)).alloc (.map #[] 0)).alloc (.map #[] 0)).alloc (.cells #[.int .i64 V, .int .i64 S, .int .i64 T, .int .i64 V, .int .i64 S, .int .i64 T, .iface 84 (pmV p), .int .i64 1, .int .i64 0, .int .i64 V, .int .i64 S, .int .i64 T, .iface 84 (pmV p), .map (some (w3.heap.size + 1)), .map (some (w3.heap.size + 2))] 45)) w3.heap.size 38 #[.int .i64 V, .int .i64 S, .int .i64 T, .iface 84 (pmV p), .int .i64 1, .int .i64 0, .int .i64 V, .int .i64 S, .int .i64 T, .iface 84 (pmV p)]) := Lib.hid ((((Blk.new _ _ _).alloc _).alloc _).alloc _)
  have HL4 := Lib.hid (HL3.out.below HB4.out HL3.out.lt)
  have HX4 := Lib.hid (HX3.out.below HB4.out HX3.out.lt)
  have HW : Hid (Below w.heap.size w ((((w3.alloc (.cells #[.int .i64 V, .int .i64 S, .int .i64 T, .iface 84 (pmV p), .int .i64 1, .int .i64 0, .int .i64 V, .int .i64 S, .int .i64 T, .iface 84 (pmV p)] 38)).alloc (.map #[] 0)).alloc (.map #[] 0)).alloc (.cells #[.int .i64 V, .int .i64 S, .int .i64 T, .int .i64 V, .int .i64 S, .int .i64 T, .iface 84 (pmV p), .int .i64 1, .int .i64 0, .int .i64 V, .int .i64 S, .int .i64 T, .iface 84 (pmV p), .map (some (w3.heap.size + 1)), .map (some (w3.heap.size + 2))] 45))) := Lib.hid (HB2.out.trans ((HB3.out.trans (HB4.out.mono HB3.out.size)).mono HB2.out.size))
  have HWS : Hid (w.heap.size ≤ w2.heap.size) := Lib.hid HB2.out.size
  clear HT3 HL3 HB4 HB3 HL2 HB2 HPG HX2 HX3
  generalize hq4 : w3.heap.size + 3 = q at HP4 ⊢
  generalize hl4 : w3.heap.size + 2 = lb at HP4 HA4 HL4 HX4 HW ⊢
  generalize he4 : w3.heap.size + 1 = eb at HP4 HA4 HL4 HX4 HW ⊢
  clear hq4 hl4 he4
  generalize w3.heap.size = ab at HA4 ⊢
  generalize ((((w3.alloc (.cells #[.int .i64 V, .int .i64 S, .int .i64 T, .iface 84 (pmV p), .int .i64 1, .int .i64 0, .int .i64 V, .int .i64 S, .int .i64 T, .iface 84 (pmV p)] 38)).alloc (.map #[] 0)).alloc (.map #[] 0)).alloc (.cells #[.int .i64 V, .int .i64 S, .int .i64 T, .int .i64 V, .int .i64 S, .int .i64 T, .iface 84 (pmV p), .int .i64 1, .int .i64 0, .int .i64 V, .int .i64 S, .int .i64 T, .iface 84 (pmV p), .map (some (eb)), .map (some (lb))] 45)) = W4 at HP4 HA4 HL4 HX4 HW ⊢
  generalize w2.heap.size = base at HP4 HWS
  obtain ⟨n9, hn9⟩ : ∃ k, nN V S = k := ⟨_, rfl⟩
  have HN9 := Lib.hid hn9
  have n416 : n9 ≤ 416 := by rw [← hn9]; exact nN8 HG.out.1 HG.out.2
  rw [hn9] at HP4
  clear hn9
  obtain ⟨m0, hm0⟩ : ∃ k, 10 * n9 = k := ⟨_, rfl⟩
  rw [hm0] at HP4
  have m4160 : m0 ≤ 4160 := by omega
  clear hm0
  generalize sing n9 = ts at HP4
  generalize cellsN V S T = cap at HP4
  have HRel : Hid (Lp12 W4 base q eb lb V S T p gb cap m0 13420 ol ts (.int .i64 0) W4) := Lib.hid ⟨0, _, _, _, _, Nat.zero_le _, rfl, HP4.out, ER.nil fun _ => rfl⟩
  clear HP4
  go_loopw [42] (fun i wr => Lp12 W4 base q eb lb V S T p gb cap m0 13420 ol ts i wr) (fun i _ => ol - (intOf i).toNat)
  case atStart => exact HRel.out
  case round =>
    clear HRel
    obtain ⟨k, f, mk, bs, qq, hk, rfl, hL, hE⟩ := hrel
    have HL := Lib.hid hL
    have HE := Lib.hid hE
    have HBW := Lib.hid (HW.out.trans (hL.ps.be.mono HWS.out))
    clear hL hE
    by_cases hkl : k < ol
    · as_aux_lemma =>
      obtain ⟨ob, off, rfl, hcell⟩ := HO0.out (by omega)
      have hc := hcell k hkl
      obtain ⟨o, ho⟩ : ∃ o, fo k = o := ⟨_, rfl⟩
      rw [ho] at hc
      obtain ⟨kd, s, u, v, l⟩ := o
      have c0 := cell_later HBW.out hc.1
      have c1 := cell_later HBW.out hc.2.1
      have c2 := cell_later HBW.out hc.2.2.1
      have c3 := cell_later HBW.out hc.2.2.2.1
      have c4 := cell_later HBW.out hc.2.2.2.2
      have hkI : (k : Int) < (ol : Int) := by omega
      have hk0 : (0 : Int) ≤ (k : Int) := by omega
      have HM9 : Hid (m0 + 13420 * k + 13420 ≤ 99832200) := Lib.hid (by have := HOL.out; omega)
      have HLa := Lib.hid (HL.out.alloc (.cells #[.int .i64 kd, .int .i64 s, .int .i64 u, .int .i64 v, .int .i64 l] 47))
      clear hc ho hcell HL
      go_wp2_with fail
      refine (lstep12 HLa.out HE.out (by have := HM9.out; omega)).mono ?_
      rintro e w5 ⟨rfl, f', mk', bs', qq', hL5, hE5, _⟩
      rw [HN9.out] at hL5
      have HL5 := Lib.hid hL5
      have HE5 := Lib.hid hE5
      clear hL5 hE5 HLa HE c0 c1 c2 c3 c4
      go_wp2_with fail
      exact ⟨⟨k + 1, f', mk', bs', qq', hkl, by simp, HL5.out.more (by omega) (by omega), HE5.out⟩, by simp [intOf]; omega⟩
    · have ek : ol = k := by omega
      subst ek
      have hkI : ¬ (ol : Int) < (ol : Int) := by omega
      clear hk hkl
      as_aux_lemma =>
      have HK := Lib.hid (BK12.mk HL.out (HL.out.ps.kb _ _ _ HX4.out (by decide) (by decide)))
      have HMM : Hid (m0 + 13420 * ol ≤ 99707360) := Lib.hid (by have := HOL.out; omega)
      generalize m0 + 13420 * ol = m1 at HK HMM
      generalize 4 * ol = n1 at HK
      clear HL
      go_wp2_with fail
      obtain ⟨a, b, d, t, c1, hc1, hc2, hlook⟩ := fe_look HK.out.pm.ps.fe (s := xs) HXS.out
      have hk1 := hlook wr.drew rfl
      have hk2 := hlook (wr.alloc (.cells #[.int .i64 0, .int .i64 0, .int .i64 0, .bool false] 55)).drew (Below.heap_alloc wr _ eb HK.out.pm.ps.fe.lt)
      have HC1 := Lib.hid (And.intro hc1 hc2)
      have HZ0 := Lib.hid HK.out.drew
      have HZ1 := Lib.hid (HK.out.below ((Below.refl _ _).alloc (Nat.le_refl _) (.cells #[.int .i64 0, .int .i64 0, .int .i64 0, .bool false] 55))).drew
      have HZ2 := Lib.hid (HK.out.below ((Below.refl _ _).alloc (Nat.le_refl _) (.cells #[.int .i64 (a : Int), .int .i64 (b : Int), .int .i64 (d : Int), .bool t] 55))).drew
      clear hc1 hc2 hlook
      obtain ⟨⟨y0, y1, y2, y3, y4, y5, y6, y7, y8, y9, y10, y11, y12, y13, y14⟩, x0, x1, x2, x3, x4⟩ := SB12.rule _ _ _ _ _ _ _ _ _ _ _ _ _ _ HZ0.out.sb
      have xlt := HZ0.out.fo.lt
      have qlt := HZ0.out.pm.ps.pb.lt
      have hrule := SB12.rule q eb lb p xo V S T xk xs xu xv xl
      go_region_held3 (fun W => SB12 W q eb lb p xo V S T xk xs xu xv xl) (first | (with_reducible assumption) | (with_reducible exact HZ2.out.sb) | (with_reducible exact HZ1.out.sb) | (with_reducible exact HZ0.out.sb))
        (fail)
      all_goals
        clear hrule hk1 hk2 x0 x1 x2 x3 x4 y0 y1 y2 y3 y4 y5 y6 y7 y8 y9 y10 y11 y12 y13 y14 xlt qlt HZ0 HZ1 HK
        generalize (wr.alloc (.cells #[.int .i64 (a : Int), .int .i64 (b : Int), .int .i64 (d : Int), .bool t] 55)).drew = v1 at HZ2 ⊢
        have HK1 := HZ2
        clear HZ2
        have HB1 := Lib.hid (HW.out.trans (HK1.out.pm.ps.be.mono HWS.out))
        clear HBW HX4 HA4 HL4
        obtain ⟨⟨y0, y1, y2, y3, y4, y5, y6, y7, y8, y9, y10, y11, y12, y13, y14⟩, x0, x1, x2, x3, x4⟩ := SB12.rule _ _ _ _ _ _ _ _ _ _ _ _ _ _ HK1.out.sb
        have xlt := HK1.out.fo.lt
        have qlt := HK1.out.pm.ps.pb.lt
        have xfr := HK1.out.fo.frozen 0
        go_wp2_with fail
        have HK2 := Lib.hid (HK1.out.kind 1)
        have HB2 := Lib.hid (HB1.out.setCell (p := ⟨xo, 0, none⟩) HXO.out (.int .i64 1))
        clear HK1 HB1 xfr x0 x1 x2 x3 x4 y0 y1 y2 y3 y4 y5 y6 y7 y8 y9 y10 y11 y12 y13 y14 xlt qlt HW
        generalize v1.setCell ⟨xo, 0, none⟩ (.int .i64 1) = v2 at HK2 HB2 ⊢
        have HF2 := Lib.hid HK2.out.fo
        obtain ⟨⟨y0, y1, y2, y3, y4, y5, y6, y7, y8, y9, y10, y11, y12, y13, y14⟩, x0, x1, x2, x3, x4⟩ := SB12.rule _ _ _ _ _ _ _ _ _ _ _ _ _ _ HK2.out.sb
        have xlt := HK2.out.fo.lt
        have qlt := HK2.out.pm.ps.pb.lt
        go_wp2_with fail
        refine (lstep12 HK2.out.pm HE.out (by have := HMM.out; omega)).mono ?_
        rintro e w5 ⟨rfl, f5, mk5, bs5, qq5, hL5, hE5, h5⟩
        rw [HN9.out] at hL5
        have HK5 := Lib.hid (BK12.mk hL5 (hL5.ps.kb _ _ _ HF2.out (by decide) (by decide)))
        have HE5 := Lib.hid hE5
        have H5 := Lib.hid (h5 rfl)
        clear hL5 hE5 h5 HK2 HE x0 x1 x2 x3 x4 y0 y1 y2 y3 y4 y5 y6 y7 y8 y9 y10 y11 y12 y13 y14 xlt qlt
        go_wp2_with fail
        obtain ⟨a, b, d, t, c2, hc1, hc2, hlook⟩ := fe_look HK5.out.pm.ps.fe (s := xs) HXS.out
        have hk1 := hlook w5.drew rfl
        have hk2 := hlook (w5.alloc (.cells #[.int .i64 0, .int .i64 0, .int .i64 0, .bool false] 55)).drew (Below.heap_alloc w5 _ eb HK5.out.pm.ps.fe.lt)
        have HC2 := Lib.hid (And.intro hc1 hc2)
        have HZ0 := Lib.hid HK5.out.drew
        have HZ1 := Lib.hid (HK5.out.below ((Below.refl _ _).alloc (Nat.le_refl _) (.cells #[.int .i64 0, .int .i64 0, .int .i64 0, .bool false] 55))).drew
        have HZ2 := Lib.hid (HK5.out.below ((Below.refl _ _).alloc (Nat.le_refl _) (.cells #[.int .i64 (a : Int), .int .i64 (b : Int), .int .i64 (d : Int), .bool t] 55))).drew
        clear hc1 hc2 hlook
        obtain ⟨⟨y0, y1, y2, y3, y4, y5, y6, y7, y8, y9, y10, y11, y12, y13, y14⟩, x0, x1, x2, x3, x4⟩ := SB12.rule _ _ _ _ _ _ _ _ _ _ _ _ _ _ HZ0.out.sb
        have xlt := HZ0.out.fo.lt
        have qlt := HZ0.out.pm.ps.pb.lt
        have hrule := SB12.rule q eb lb p xo V S T 1 xs xu xv xl
        go_region_held3 (fun W => SB12 W q eb lb p xo V S T 1 xs xu xv xl) (first | (with_reducible assumption) | (with_reducible exact HZ2.out.sb) | (with_reducible exact HZ1.out.sb) | (with_reducible exact HZ0.out.sb))
          (fail)
        all_goals
          clear hrule hk1 hk2 x0 x1 x2 x3 x4 y0 y1 y2 y3 y4 y5 y6 y7 y8 y9 y10 y11 y12 y13 y14 xlt qlt HZ0 HZ1 HK5
          generalize (w5.alloc (.cells #[.int .i64 (a : Int), .int .i64 (b : Int), .int .i64 (d : Int), .bool t] 55)).drew = v3 at HZ2 ⊢
          have HK3 := HZ2
          clear HZ2
          have HB3 := Lib.hid (HB2.out.trans (HK3.out.pm.ps.be.mono HWS.out))
          cases c1 with
          | true =>
            as_aux_lemma =>
            go_wp2_with fail
            refine (awake_any12 _).mono ?_; rintro e w9 ⟨rfl, hb9⟩
            have HBE := Lib.hid (HB3.out.trans (hb9.mono HB3.out.size))
            go_wp2_with fail
            go_ret
            exact ⟨rfl, HBE.out⟩
          | false =>
            cases c2 with
            | false =>
              as_aux_lemma =>
              go_wp2_with fail
              refine (awake_any12 _).mono ?_; rintro e w9 ⟨rfl, hb9⟩
              have HBE := Lib.hid (HB3.out.trans (hb9.mono HB3.out.size))
              go_wp2_with fail
              go_ret
              exact ⟨rfl, HBE.out⟩
            | true =>
              as_aux_lemma =>
              obtain ⟨x9, hx9, ex9, _⟩ := HC2.out.1 rfl
              rcases H5.out with ⟨e1, e2⟩ | ⟨s9, u9, v9, l9, rfl, rfl, rfl, rfl, hl9, hns, rfl, rfl⟩
              · exfalso
                rw [e1] at hx9
                exact HC1.out.2 rfl x9 hx9 ex9.symm
              clear hx9 ex9
              have hok := HE5.out.ok ⟨s9, min u9 v9, max u9 v9, l9, false⟩ (by simp)
              obtain ⟨mn, hmn⟩ : ∃ a, min u9 v9 = a := ⟨_, rfl⟩
              obtain ⟨mx, hmx⟩ : ∃ a, max u9 v9 = a := ⟨_, rfl⟩
              have mI : (if (v9 : Int) < (u9 : Int) then (v9 : Int) else (u9 : Int)) = (mn : Int) := by split <;> omega
              have mI2 : (if v9 < u9 then (v9 : Int) else (u9 : Int)) = (mn : Int) := by split <;> omega
              rw [hmn, hmx] at HK3 HE5 hok
              have HO9 : Hid ((mn : Int) < V ∧ (l9 : Int) < lv V) := Lib.hid ⟨by have h1 : mn < mx := hok.1; have h2 : (mx : Int) < V := hok.2.1; omega, hl9⟩
              have HFS : Hid (fsV (dl (add2 qq s9 mn mx l9) mn l9) = .tuple #[.int .i64 (s9 : Int), .bool true]) := Lib.hid (by rw [dl_add, if_pos ⟨rfl, .inl rfl⟩]; rfl)
              clear hok hmn hmx hl9 hns H5 HC1 HC2
              have nss : ((s9 : Int) != (s9 : Int)) = false := bne_self_eq_false _
              go_wp2_with fail
              have HKd := Lib.hid HK3.out.drew
              clear HK3
              obtain ⟨⟨y0, y1, y2, y3, y4, y5, y6, y7, y8, y9, y10, y11, y12, y13, y14⟩, x0, x1, x2, x3, x4⟩ := SB12.rule _ _ _ _ _ _ _ _ _ _ _ _ _ _ HKd.out.sb
              have xlt := HKd.out.fo.lt
              have qlt := HKd.out.pm.ps.pb.lt
              have hrule := SB12.rule q eb lb p xo V S T 1 (s9 : Int) (u9 : Int) (v9 : Int) (l9 : Int)
              go_region_held3 (fun W => SB12 W q eb lb p xo V S T 1 (s9 : Int) (u9 : Int) (v9 : Int) (l9 : Int)) (first | (with_reducible assumption) | (with_reducible exact HK6.out.sb) | (with_reducible exact HKd.out.sb))
                (first
                  | (go_at_call 19; ((with_reducible refine (first_any12 HKd.out.pm.ps.ta HKd.out.pm.lq HO9.out.1 HO9.out.2 (by have := HMM.out; omega) rfl rfl).mono ?_); rintro e w6 ⟨rfl, A6, O6⟩; rw [HFS.out]; have HK6 := Lib.hid (HKd.out.next A6 O6)))
                  | fail)
              clear hrule HKd A6 O6 x0 x1 x2 x3 x4 y0 y1 y2 y3 y4 y5 y6 y7 y8 y9 y10 y11 y12 y13 y14 xlt qlt mI mI2
              obtain ⟨⟨y0, y1, y2, y3, y4, y5, y6, y7, y8, y9, y10, y11, y12, y13, y14⟩, x0, x1, x2, x3, x4⟩ := SB12.rule _ _ _ _ _ _ _ _ _ _ _ _ _ _ HK6.out.sb
              have xlt := HK6.out.fo.lt
              have qlt := HK6.out.pm.ps.pb.lt
              go_wp2_with fail
              refine (lis12 HK6.out.pm HE5.out HG.out.2 (by have := HMM.out; omega)).mono ?_
              rintro e w7 ⟨rfl, hL7⟩
              have HK7 := Lib.hid (BK12.mk hL7 (hL7.ps.kb _ _ _ HF2.out (by decide) (by decide)))
              have HB7 := Lib.hid (HB2.out.trans (hL7.ps.be.mono HWS.out))
              clear hL7 HK6 x0 x1 x2 x3 x4 y0 y1 y2 y3 y4 y5 y6 y7 y8 y9 y10 y11 y12 y13 y14 xlt qlt nss
              obtain ⟨⟨y0, y1, y2, y3, y4, y5, y6, y7, y8, y9, y10, y11, y12, y13, y14⟩, x0, x1, x2, x3, x4⟩ := SB12.rule _ _ _ _ _ _ _ _ _ _ _ _ _ _ HK7.out.sb
              have xlt := HK7.out.fo.lt
              have qlt := HK7.out.pm.ps.pb.lt
              have xfr := HK7.out.fo.frozen 0
              go_wp2_with fail
              have HK8 := Lib.hid (HK7.out.kind 2)
              have HB8 := Lib.hid (HB7.out.setCell (p := ⟨xo, 0, none⟩) HXO.out (.int .i64 2))
              clear HK7 HB7 xfr x0 x1 x2 x3 x4 y0 y1 y2 y3 y4 y5 y6 y7 y8 y9 y10 y11 y12 y13 y14 xlt qlt HB2 HF2
              generalize w7.setCell ⟨xo, 0, none⟩ (.int .i64 2) = v8 at HK8 HB8 ⊢
              obtain ⟨⟨y0, y1, y2, y3, y4, y5, y6, y7, y8, y9, y10, y11, y12, y13, y14⟩, x0, x1, x2, x3, x4⟩ := SB12.rule _ _ _ _ _ _ _ _ _ _ _ _ _ _ HK8.out.sb
              have xlt := HK8.out.fo.lt
              have qlt := HK8.out.pm.ps.pb.lt
              go_wp2_with fail
              refine (lstep12 HK8.out.pm HE5.out (by have := HMM.out; omega)).mono ?_
              rintro e z1 ⟨rfl, f8, mk8, bs8, qq8, hL8, hE8, _⟩
              rw [HN9.out] at hL8
              have HL8 := Lib.hid hL8
              have HE8 := Lib.hid hE8
              clear hL8 hE8 HK8 x0 x1 x2 x3 x4 y0 y1 y2 y3 y4 y5 y6 y7 y8 y9 y10 y11 y12 y13 y14 xlt qlt
              go_wp2_with fail
              refine (lis12 HL8.out HE8.out HG.out.2 (by have := HMM.out; omega)).mono ?_
              rintro e z2 ⟨rfl, hL9⟩
              have HB9 := Lib.hid (HB8.out.trans (hL9.ps.be.mono HWS.out))
              clear hL9
              go_wp2_with fail
              refine (awake_any12 _).mono ?_; rintro e w9 ⟨rfl, hb9⟩
              have HBE := Lib.hid (HB9.out.trans (hb9.mono HB9.out.size))
              go_wp2_with fail
              go_ret
              exact ⟨rfl, HBE.out⟩
end
end Go.Proofs.Ytaooglagddphnaa
