/- The law AdjLinks. Printed by wip/tools/adl.py. -/
import Derived.Test.YtaooglagddphnaaAdX
import Derived.Carry
namespace Go.Proofs.Ytaooglagddphnaa
open Go.RowKit

set_option maxRecDepth 100000

/-- A play beside the law's lay and lists. -/
structure LC12 (w0 W : World) (base q eb lb lo ab : Nat) (V S T : Int) (p gb cap m n : Nat) (f : Nat → Int) (mk : Nat → Nat) (ts : List Tp) (bs : List E1) (qq : Nat → Nat → List Nat) : Prop where
  pm : PM12 w0 W base q eb lb V S T p gb cap m n f mk ts bs qq
  fl : Blk W lo 23 #[.int .i64 V, .int .i64 S, .int .i64 T]
  fa : AjB W ab V S T p
def SC12 (W : World) (lo ab p : Nat) (V S T : Int) : Prop := Blk W lo 23 #[.int .i64 V, .int .i64 S, .int .i64 T] ∧ AjB W ab V S T p
section
variable {w w' w0 : World} {base q eb lb lo ab p gb cap m m' n n' : Nat} {V S T : Int} {f : Nat → Int} {mk : Nat → Nat} {ts : List Tp} {bs : List E1} {qq : Nat → Nat → List Nat}
theorem LC12.below (h : LC12 w0 w base q eb lb lo ab V S T p gb cap m n f mk ts bs qq) (hb : Below w.heap.size w w') : LC12 w0 w' base q eb lb lo ab V S T p gb cap m n f mk ts bs qq := ⟨h.pm.below hb, h.fl.below hb h.fl.lt, h.fa.below hb⟩
theorem LC12.drew (h : LC12 w0 w base q eb lb lo ab V S T p gb cap m n f mk ts bs qq) : LC12 w0 w.drew base q eb lb lo ab V S T p gb cap m n f mk ts bs qq := h.below (Below.refl _ _).drew
theorem LC12.next (h : LC12 w0 w base q eb lb lo ab V S T p gb cap m n f mk ts bs qq) (hm : TA w' V S T p gb cap m' f mk ts) (ho : Only p gb w w') : LC12 w0 w' base q eb lb lo ab V S T p gb cap m' n f mk ts bs qq := ⟨h.pm.next hm ho, Blk.ta h.fl h.pm.ps.ta ho (by decide) (by decide), Blk.ta h.fa h.pm.ps.ta ho (by decide) (by decide)⟩
theorem LC12.more (h : LC12 w0 w base q eb lb lo ab V S T p gb cap m n f mk ts bs qq) (hm : m ≤ m') : LC12 w0 w base q eb lb lo ab V S T p gb cap m' n f mk ts bs qq := ⟨h.pm.more hm (Nat.le_refl _), h.fl, h.fa⟩
theorem LC12.sc (h : LC12 w0 w base q eb lb lo ab V S T p gb cap m n f mk ts bs qq) : SC12 w lo ab p V S T := ⟨h.fl, h.fa⟩
theorem SC12.rule (lo ab p : Nat) (V S T : Int) : ∀ W : World, SC12 W lo ab p V S T → (W.cell? ⟨lo, 0, none⟩ = some (.int .i64 V) ∧ W.cell? ⟨lo, 1, none⟩ = some (.int .i64 S) ∧ W.cell? ⟨lo, 2, none⟩ = some (.int .i64 T)) ∧ W.cell? ⟨ab, 0, none⟩ = some (.int .i64 V) ∧ W.cell? ⟨ab, 1, none⟩ = some (.int .i64 S) ∧ W.cell? ⟨ab, 2, none⟩ = some (.int .i64 T) ∧ W.cell? ⟨ab, 3, none⟩ = some (.iface 84 (pmV p)) ∧ W.cell? ⟨ab, 4, none⟩ = some (.int .i64 1) ∧ W.cell? ⟨ab, 5, none⟩ = some (.int .i64 0) ∧ W.cell? ⟨ab, 6, none⟩ = some (.int .i64 V) ∧ W.cell? ⟨ab, 7, none⟩ = some (.int .i64 S) ∧ W.cell? ⟨ab, 8, none⟩ = some (.int .i64 T) ∧ W.cell? ⟨ab, 9, none⟩ = some (.iface 84 (pmV p)) := fun _ h => ⟨⟨h.1.cell 0, h.1.cell 1, h.1.cell 2⟩, h.2.cells⟩
/-- In the law's loops: by vertices; by levels; along a list. -/
def LA12 (w0 : World) (base q eb lb lo ab : Nat) (V S T : Int) (p gb cap m n nv : Nat) (f : Nat → Int) (mk : Nat → Nat) (ts : List Tp) (bs : List E1) (qq : Nat → Nat → List Nat) (i : Value) (W : World) : Prop :=
  ∃ k, k ≤ nv ∧ i = .int .i64 ((k : Nat) : Int) ∧ LC12 w0 W base q eb lb lo ab V S T p gb cap (m + 1000 * k) n f mk ts bs qq
def LB12 (w0 : World) (base q eb lb lo ab : Nat) (V S T : Int) (p gb cap m n nl : Nat) (f : Nat → Int) (mk : Nat → Nat) (ts : List Tp) (bs : List E1) (qq : Nat → Nat → List Nat) (i : Value) (W : World) : Prop :=
  ∃ k, k ≤ nl ∧ i = .int .i64 ((k : Nat) : Int) ∧ LC12 w0 W base q eb lb lo ab V S T p gb cap (m + 200 * k) n f mk ts bs qq
def LD12 (w0 : World) (base q eb lb lo ab : Nat) (V S T : Int) (p gb cap m n : Nat) (f : Nat → Int) (mk : Nat → Nat) (ts : List Tp) (bs : List E1) (qq : Nat → Nat → List Nat) (L : List Nat) (ia ik ix : Value) (W : World) : Prop :=
  ∃ (pre suf : List Nat) (a k x : Nat), L = pre ++ suf ∧ pre.getLast?.getD 0 = a ∧ pre.length = k ∧ suf.headD 0 = x ∧ ia = .int .i64 (a : Int) ∧ ik = .int .i64 (k : Int) ∧ ix = .int .i64 (x : Int) ∧ LC12 w0 W base q eb lb lo ab V S T p gb cap (m + 2 * k) n f mk ts bs qq
end
section
variable {V S T : Int} {oa : Option Addr} {ol oc : Nat} {fo : Nat → O12}
set_option maxHeartbeats 16000000 in
theorem llinks12 (w : World) (hO : IsO12 w oa ol fo) :
    Calls Try.prog 4 #[vL V S T, .slice oa ol oc] w fun e w' => e = .returned (.bool true) ∧ Below w.heap.size w w' := by
  have ml := methp_load
  have mn := nilp_load
  have HO0 := Lib.hid hO
  clear hO
  have hmm := @run_makeMap Try.prog
  have HB1 : Hid (Below w.heap.size w (w.alloc (.cells #[.int .i64 V, .int .i64 S, .int .i64 T] 23))) := Lib.hid ((Below.refl _ _).alloc (Nat.le_refl _) _)
  have HL1 : Hid (Blk (w.alloc (.cells #[.int .i64 V, .int .i64 S, .int .i64 T] 23)) w.heap.size 23 #[.int .i64 V, .int .i64 S, .int .i64 T]) := Lib.hid (Blk.new _ _ _)
  go_enter Try.func4, Try.ntmps4
  go_wp2_with fail
  generalize w.heap.size = lo at HL1 ⊢
  generalize (w.alloc (.cells #[.int .i64 V, .int .i64 S, .int .i64 T] 23)) = W1 at HB1 HL1 ⊢
  refine (right_any12 V S T _).mono ?_; rintro e w2 ⟨rfl, hb2⟩
  have HB2 := Lib.hid (HB1.out.trans (hb2.mono HB1.out.size))
  have HL2 := Lib.hid (HL1.out.below hb2 HL1.out.lt)

  clear HB1 HL1 hb2 
  cases hr : rgt12 V S T
  · go_wp2_with fail
    refine (awake_any12 _).mono ?_; rintro e w3 ⟨rfl, hb3⟩
    have HB3 := Lib.hid (HB2.out.trans (hb3.mono HB2.out.size))
    go_wp2_with fail
    go_ret
    exact ⟨rfl, HB3.out⟩
  have HG := Lib.hid (rgt12_yes hr)
  clear hr
  by_cases hol : ol ≤ 60
  rotate_left
  · have holI : ¬ (ol : Int) ≤ 60 := by omega
    go_wp2_with fail
    refine (awake_any12 _).mono ?_; rintro e w3 ⟨rfl, hb3⟩
    have HB3 := Lib.hid (HB2.out.trans (hb3.mono HB2.out.size))
    go_wp2_with fail
    go_ret
    exact ⟨rfl, HB3.out⟩
  have holI : (ol : Int) ≤ 60 := by omega
  have HOL := Lib.hid hol
  clear hol
  obtain ⟨a0, a1, a2⟩ : w2.cell? ⟨lo, 0, none⟩ = some (.int .i64 V) ∧ w2.cell? ⟨lo, 1, none⟩ = some (.int .i64 S) ∧ w2.cell? ⟨lo, 2, none⟩ = some (.int .i64 T) := ⟨HL2.out.cell 0, HL2.out.cell 1, HL2.out.cell 2⟩
  have alt := HL2.out.lt
  go_wp2_with fail
  refine (begun_any12 HG.out.1).mono ?_; rintro e w3 ⟨p, gb, rfl, hT, hB, hp, hg⟩
  have HT3 := Lib.hid hT
  have HB3 := Lib.hid hB
  have HL3 := Lib.hid (HL2.out.below hB HL2.out.lt)

  have HPG := Lib.hid (And.intro hp hg)
  clear hT hB hp hg a0 a1 a2 alt
  obtain ⟨a0, a1, a2⟩ : w3.cell? ⟨lo, 0, none⟩ = some (.int .i64 V) ∧ w3.cell? ⟨lo, 1, none⟩ = some (.int .i64 S) ∧ w3.cell? ⟨lo, 2, none⟩ = some (.int .i64 T) := ⟨HL3.out.cell 0, HL3.out.cell 1, HL3.out.cell 2⟩
  have alt := HL3.out.lt
  go_wp2_with fail
  clear a0 a1 a2 alt hmm
  have HP4 := Lib.hid (PM12.start HT3.out HPG.out.1 HPG.out.2 HB3.out.size)
  have HB4 : Hid (Below w3.heap.size w3 ((((w3.alloc (.cells #[.int .i64 V, .int .i64 S, .int .i64 T, .iface 84 (pmV p), .int .i64 1, .int .i64 0, .int .i64 V, .int .i64 S, .int .i64 T, .iface 84 (pmV p)] 38)).alloc (.map #[] 0)).alloc (.map #[] 0)).alloc (.cells #[.int .i64 V, .int .i64 S, .int .i64 T, .int .i64 V, .int .i64 S, .int .i64 T, .iface 84 (pmV p), .int .i64 1, .int .i64 0, .int .i64 V, .int .i64 S, .int .i64 T, .iface 84 (pmV p), .map (some (w3.heap.size + 1)), .map (some (w3.heap.size + 2))] 45))) := Lib.hid (((((Below.refl _ _).alloc (Nat.le_refl _) _).alloc (by simp) _).alloc (by simp; omega) _).alloc (by simp; omega) _)
  have HA4 : Hid (Blk ((((w3.alloc (.cells #[.int .i64 V, .int .i64 S, .int .i64 T, .iface 84 (pmV p), .int .i64 1, .int .i64 0, .int .i64 V, .int .i64 S, .int .i64 T, .iface 84 (pmV p)] 38)).alloc (.map #[] 0)).alloc (.map #[] 0)).alloc (.cells #[.int .i64 V, .int .i64 S, .int .i64 T, .int .i64 V, .int .i64 S, .int .i64 T, .iface 84 (pmV p), .int .i64 1, .int .i64 0, .int .i64 V, .int .i64 S, .int .i64 T, .iface 84 (pmV p), .map (some (w3.heap.size + 1)), .map (some (w3.heap.size + 2))] 45)) w3.heap.size 38 #[.int .i64 V, .int .i64 S, .int .i64 T, .iface 84 (pmV p), .int .i64 1, .int .i64 0, .int .i64 V, .int .i64 S, .int .i64 T, .iface 84 (pmV p)]) := Lib.hid ((((Blk.new _ _ _).alloc _).alloc _).alloc _)
  have HL4 := Lib.hid (HL3.out.below HB4.out HL3.out.lt)

  have HW : Hid (Below w.heap.size w ((((w3.alloc (.cells #[.int .i64 V, .int .i64 S, .int .i64 T, .iface 84 (pmV p), .int .i64 1, .int .i64 0, .int .i64 V, .int .i64 S, .int .i64 T, .iface 84 (pmV p)] 38)).alloc (.map #[] 0)).alloc (.map #[] 0)).alloc (.cells #[.int .i64 V, .int .i64 S, .int .i64 T, .int .i64 V, .int .i64 S, .int .i64 T, .iface 84 (pmV p), .int .i64 1, .int .i64 0, .int .i64 V, .int .i64 S, .int .i64 T, .iface 84 (pmV p), .map (some (w3.heap.size + 1)), .map (some (w3.heap.size + 2))] 45))) := Lib.hid (HB2.out.trans ((HB3.out.trans (HB4.out.mono HB3.out.size)).mono HB2.out.size))
  have HWS : Hid (w.heap.size ≤ w2.heap.size) := Lib.hid HB2.out.size
  clear HT3 HL3 HB4 HB3 HL2 HB2 HPG 
  generalize hq4 : w3.heap.size + 3 = q at HP4 ⊢
  generalize hl4 : w3.heap.size + 2 = lb at HP4 HA4 HL4 HW ⊢
  generalize he4 : w3.heap.size + 1 = eb at HP4 HA4 HL4 HW ⊢
  clear hq4 hl4 he4
  generalize w3.heap.size = ab at HA4 ⊢
  generalize ((((w3.alloc (.cells #[.int .i64 V, .int .i64 S, .int .i64 T, .iface 84 (pmV p), .int .i64 1, .int .i64 0, .int .i64 V, .int .i64 S, .int .i64 T, .iface 84 (pmV p)] 38)).alloc (.map #[] 0)).alloc (.map #[] 0)).alloc (.cells #[.int .i64 V, .int .i64 S, .int .i64 T, .int .i64 V, .int .i64 S, .int .i64 T, .iface 84 (pmV p), .int .i64 1, .int .i64 0, .int .i64 V, .int .i64 S, .int .i64 T, .iface 84 (pmV p), .map (some (eb)), .map (some (lb))] 45)) = W4 at HP4 HA4 HL4 HW ⊢
  generalize w2.heap.size = base at HP4 HWS
  obtain ⟨n9, hn9⟩ : ∃ k, nN V S = k := ⟨_, rfl⟩
  have HN9 := Lib.hid hn9
  have n416 : n9 ≤ 416 := by rw [← hn9]; exact nN8 HG.out.1 HG.out.2
  rw [hn9] at HP4
  clear hn9
  obtain ⟨m0, hm0⟩ : ∃ k, 10 * n9 = k := ⟨_, rfl⟩
  rw [hm0] at HP4
  have m4160 : m0 ≤ 4160 := by omega
  clear hm0
  generalize sing n9 = ts at HP4
  generalize cellsN V S T = cap at HP4
  have HRel : Hid (Lp12 W4 base q eb lb V S T p gb cap m0 13420 ol ts (.int .i64 0) W4) := Lib.hid ⟨0, _, _, _, _, Nat.zero_le _, rfl, HP4.out, ER.nil fun _ => rfl⟩
  clear HP4
  go_loopw [39] (fun i wr => Lp12 W4 base q eb lb V S T p gb cap m0 13420 ol ts i wr) (fun i _ => ol - (intOf i).toNat)
  case atStart => exact HRel.out
  case round =>
    clear HRel
    obtain ⟨k, f, mk, bs, qq, hk, rfl, hL, hE⟩ := hrel
    have HL := Lib.hid hL
    have HE := Lib.hid hE
    have HBW := Lib.hid (HW.out.trans (hL.ps.be.mono HWS.out))
    clear hL hE
    by_cases hkl : k < ol
    · as_aux_lemma =>
      obtain ⟨ob, off, rfl, hcell⟩ := HO0.out (by omega)
      have hc := hcell k hkl
      obtain ⟨o, ho⟩ : ∃ o, fo k = o := ⟨_, rfl⟩
      rw [ho] at hc
      obtain ⟨kd, s, u, v, l⟩ := o
      have c0 := cell_later HBW.out hc.1
      have c1 := cell_later HBW.out hc.2.1
      have c2 := cell_later HBW.out hc.2.2.1
      have c3 := cell_later HBW.out hc.2.2.2.1
      have c4 := cell_later HBW.out hc.2.2.2.2
      have hkI : (k : Int) < (ol : Int) := by omega
      have hk0 : (0 : Int) ≤ (k : Int) := by omega
      have HM9 : Hid (m0 + 13420 * k + 13420 ≤ 99832200) := Lib.hid (by have := HOL.out; omega)
      have HLa := Lib.hid (HL.out.alloc (.cells #[.int .i64 kd, .int .i64 s, .int .i64 u, .int .i64 v, .int .i64 l] 47))
      clear hc ho hcell HL
      go_wp2_with fail
      refine (lstep12 HLa.out HE.out (by have := HM9.out; omega)).mono ?_
      rintro e w5 ⟨rfl, f', mk', bs', qq', hL5, hE5, _⟩
      rw [HN9.out] at hL5
      have HL5 := Lib.hid hL5
      have HE5 := Lib.hid hE5
      clear hL5 hE5 HLa HE c0 c1 c2 c3 c4
      go_wp2_with fail
      exact ⟨⟨k + 1, f', mk', bs', qq', hkl, by simp, HL5.out.more (by omega) (by omega), HE5.out⟩, by simp [intOf]; omega⟩
    · have ek : ol = k := by omega
      subst ek
      have hkI : ¬ (ol : Int) < (ol : Int) := by omega
      clear hk hkl
      as_aux_lemma =>
      have HC := Lib.hid (LC12.mk HL.out (HL.out.ps.kb _ _ _ HL4.out (by decide) (by decide)) (HL.out.ps.kb _ _ _ HA4.out (by decide) (by decide)))
      have HMM : Hid (m0 + 13420 * ol ≤ 99707360) := Lib.hid (by have := HOL.out; omega)
      generalize m0 + 13420 * ol = m1 at HC HMM
      generalize 4 * ol = n1 at HC
      clear HL HBW
      obtain ⟨nv, rfl⟩ : ∃ k : Nat, V = (k : Int) := ⟨V.toNat, by have := HG.out.1.v1; omega⟩
      obtain ⟨nl, hnl⟩ : ∃ k : Nat, lv (nv : Int) = (k : Int) := ⟨(lv (nv : Int)).toNat, by have := lv_bd (nv : Int); omega⟩
      have hl5 : nl ≤ 5 := by have := lv_bd (nv : Int); omega
      have HNL := Lib.hid hnl
      have HR := Lib.hid HG.out.1
      have nv8 : nv ≤ 8 := by have := HG.out.2; omega
      have s48 := HR.out.s2
      have s00 := HR.out.s1
      have HQ := Lib.hid HC.out.pm.lq
      have HLEN := Lib.hid (qlen12 HC.out.pm HE.out)
      have m7 : m1 ≤ 99707360 := HMM.out
      clear hnl
      have HRelA : Hid (LA12 W4 base q eb lb lo ab (nv : Int) S T p gb cap m1 n1 nv f mk ts bs qq (.int .i64 0) wr) := Lib.hid ⟨0, Nat.zero_le _, rfl, HC.out⟩
      obtain ⟨⟨a0, a1, a2⟩, c0, c1, c2, c3, c4, c5, c6, c7, c8, c9⟩ := SC12.rule _ _ _ _ _ _ _ HC.out.sc
      have alt := HC.out.fl.lt
      have blt := HC.out.fa.lt
      go_wp2_with fail
      clear HC c0 c1 c2 c3 c4 c5 c6 c7 c8 c9 a0 a1 a2 alt blt
      go_loopw [49] (fun i wr => LA12 W4 base q eb lb lo ab (nv : Int) S T p gb cap m1 n1 nv f mk ts bs qq i wr) (fun i _ => nv - (intOf i).toNat)
      case atStart => exact HRelA.out
      case round =>
        clear HRelA
        obtain ⟨v, hv, rfl, hC⟩ := hrel
        have HC := Lib.hid hC
        clear hC
        by_cases hvn : v < nv
        · have vI : (v : Int) < (nv : Int) := by omega
          have v0 : (0 : Int) ≤ (v : Int) := by omega
          obtain ⟨⟨a0, a1, a2⟩, c0, c1, c2, c3, c4, c5, c6, c7, c8, c9⟩ := SC12.rule _ _ _ _ _ _ _ HC.out.sc
          have alt := HC.out.fl.lt
          have blt := HC.out.fa.lt
          go_wp2_with fail
          refine (levels_yes _ _ _ HR.out _).mono ?_; rintro e w2 ⟨rfl, B2⟩; rw [HNL.out]
          have HC2 := Lib.hid (HC.out.below B2)
          clear HC B2 c0 c1 c2 c3 c4 c5 c6 c7 c8 c9 a0 a1 a2 alt blt
          have HRelB : Hid (LB12 W4 base q eb lb lo ab (nv : Int) S T p gb cap (m1 + 1000 * v) n1 nl f mk ts bs qq (.int .i64 0) w2) := Lib.hid ⟨0, Nat.zero_le _, rfl, HC2.out⟩
          clear HC2
          go_wp2_with fail
          go_loopw [54] (fun i wr => LB12 W4 base q eb lb lo ab (nv : Int) S T p gb cap (m1 + 1000 * v) n1 nl f mk ts bs qq i wr) (fun i _ => nl - (intOf i).toNat)
          case atStart => exact HRelB.out
          case round =>
            clear HRelB
            obtain ⟨l, hl, rfl, hC⟩ := hrel
            have HC := Lib.hid hC
            clear hC
            by_cases hln : l < nl
            · have lI : (l : Int) < (nl : Int) := by omega
              have l0 : (0 : Int) ≤ (l : Int) := by omega
              have HP : Hid ((v : Int) < (nv : Int) ∧ (l : Int) < lv (nv : Int)) := Lib.hid ⟨vI, by have := HNL.out; omega⟩
              obtain ⟨L, hL⟩ : ∃ L, qq v l = L := ⟨_, rfl⟩
              have HLE : Hid ((L.length : Int) ≤ S) := Lib.hid (by rw [← hL]; exact HLEN.out v l)
              obtain ⟨x0, hx0⟩ : ∃ x, L.headD 0 = x := ⟨_, rfl⟩
              have HX0 : Hid ((x0 : Int) ≤ 2 * S) := Lib.hid (by have := HQ.out.head_le (v := v) (l := l) s00; rw [hL, hx0] at this; exact this)
              obtain ⟨hc, hhc⟩ : ∃ x, hC (nv : Int) S T v l = x := ⟨_, rfl⟩
              have HHD : Hid (headF (nv : Int) S T (v : Int) (l : Int) = (hc : Int)) := Lib.hid (by rw [← hhc]; exact (head_int HR.out HP.out.1 HP.out.2).1)
              have HO5 : Hid ((hc : Int) < o5 (nv : Int) S T) := Lib.hid (by rw [← hhc]; exact head_o5 HR.out HP.out.1 HP.out.2)
              have HF0 : Hid (f hc = (x0 : Int)) := Lib.hid (by have := (HQ.out.pt v l HP.out.1 HP.out.2).1; rw [hL, hx0, hhc] at this; exact this)
              have HQL := Lib.hid hL
              have HXD := Lib.hid hx0
              have x96 : (x0 : Int) ≤ 96 := by have := HX0.out; omega
              have x00 : (0 : Int) ≤ (x0 : Int) := by omega
              have wx : IntKind.i64.wrap (x0 : Int) = (x0 : Int) := IntWalk.i64_in _ (by omega)
              clear hL hx0 hhc
              go_upto_region 19 with fail
              have Hd := Lib.hid HC.out.drew
              clear HC
              obtain ⟨⟨a0, a1, a2⟩, c0, c1, c2, c3, c4, c5, c6, c7, c8, c9⟩ := SC12.rule _ _ _ _ _ _ _ Hd.out.sc
              have alt := Hd.out.fl.lt
              have blt := Hd.out.fa.lt
              have hrule := SC12.rule lo ab p (nv : Int) S T
              go_region_held3 (fun W => SC12 W lo ab p (nv : Int) S T) (first | (with_reducible assumption) | (with_reducible exact H6.out.sc) | (with_reducible exact H5.out.sc) | (with_reducible exact Hd.out.sc))
                (first
                  | (go_at_call 16; ((with_reducible refine (head_yes _ _ _ _ _ HR.out _).mono ?_); rintro e w5 ⟨rfl, hb5⟩; rw [HHD.out]; have H5 := Lib.hid (Hd.out.below hb5)))
                  | ((with_reducible refine (ta_load H5.out.pm.ps.ta HO5.out (by omega) rfl).mono ?_); rintro e w6 ⟨rfl, A6, O6⟩; rw [HF0.out]; have H6 := Lib.hid (H5.out.next A6 O6))
                  | fail)
              clear hrule c0 c1 c2 c3 c4 c5 c6 c7 c8 c9 a0 a1 a2 alt blt Hd A6 O6 wx x96 x00
              have HRelC : Hid (LD12 W4 base q eb lb lo ab (nv : Int) S T p gb cap (m1 + 1000 * v + 200 * l + 1) n1 f mk ts bs qq L (.int .i64 0) (.int .i64 0) (.int .i64 (x0 : Int)) w6) := Lib.hid ⟨[], L, 0, 0, x0, rfl, rfl, rfl, HXD.out, rfl, rfl, rfl, H6.out⟩
              clear H6 H5
              go_wp2_with fail
              go_loopw [12, 13, 14] (fun ia ik ix wr => LD12 W4 base q eb lb lo ab (nv : Int) S T p gb cap (m1 + 1000 * v + 200 * l + 1) n1 f mk ts bs qq L ia ik ix wr) (fun _ ik _ _ => L.length - (intOf ik).toNat)
              case atStart => exact HRelC.out
              case round =>
                clear HRelC HF0 HX0 HXD HO5 HHD
                obtain ⟨pre, suf, a, k, x, hps, ha, hk, hx, rfl, rfl, rfl, hC⟩ := hrel
                have HC := Lib.hid hC
                have hsum : pre.length + suf.length = L.length := by rw [hps]; simp
                have hkL : k ≤ L.length := by omega
                have hL48 : L.length ≤ 48 := by have := HLE.out; omega
                clear hC
                by_cases hx0 : x = 0
                · as_aux_lemma =>
                  have e1 : ((x : Int) != 0) = false := by rw [hx0]; rfl
                  clear hx0 hps ha hk hx
                  go_wp2_with fail
                  exact ⟨⟨l + 1, by omega, by simp, HC.out.more (by omega)⟩, by simp [intOf]; omega⟩
                · as_aux_lemma =>
                  have e1 : ((x : Int) != 0) = true := bne_iff_ne.2 (by omega)
                  obtain ⟨suf, rfl⟩ : ∃ s, suf = x :: s := by
                    cases suf with
                    | nil => exact absurd hx.symm hx0
                    | cons y s =>
                      have : y = x := hx
                      subst this
                      exact ⟨s, rfl⟩
                  obtain ⟨x2, hx2⟩ : ∃ y, suf.headD 0 = y := ⟨_, rfl⟩
                  have hql : qq v l = pre ++ x :: suf := by rw [HQL.out]; exact hps
                  obtain ⟨r1, r2⟩ := HQ.out.rg v l x (by rw [hql]; simp)
                  obtain ⟨i1, i2, _⟩ := HQ.out.live HP.out.1 HP.out.2 hql
                  rw [ha] at i1
                  rw [hx2] at i2
                  obtain ⟨qd, hqd⟩ : ∃ y, (x - 1) / 2 = y := ⟨_, rfl⟩
                  obtain ⟨rd, hrd⟩ : ∃ y, (x - 1) % 2 = y := ⟨_, rfl⟩
                  have hPV := pv_int HR.out r1 r2
                  have hNX := nx_int HR.out r1 r2
                  rw [hqd, hrd] at hPV hNX
                  have hP5 := pv_o5 HR.out r1 r2
                  have hN5 := nx_o5 HR.out r1 r2
                  generalize pvC S T x = pc at i1 hPV hP5
                  generalize nxC S T x = nc at i2 hNX hN5
                  have HPV := Lib.hid hPV
                  have HNX := Lib.hid hNX
                  have HP5 := Lib.hid hP5
                  have HN5 := Lib.hid hN5
                  have HI1 := Lib.hid i1
                  have HI2 := Lib.hid i2
                  have ha96 : (a : Int) ≤ 96 := by
                    by_cases c : a = 0
                    · omega
                    · have := (HQ.out.rg v l a (by rw [hql, ← ha]; exact List.mem_append_left _ (last_mem (by rw [ha]; exact c)))).2
                      omega
                  have hx96 : (x2 : Int) ≤ 96 := by
                    by_cases c : x2 = 0
                    · omega
                    · have := (HQ.out.rg v l x2 (by rw [hql, ← hx2]; exact List.mem_append_right _ (List.mem_cons_of_mem _ (headD_mem (by rw [hx2]; exact c))))).2
                      omega
                  have HPS : Hid (L = (pre ++ [x]) ++ suf ∧ (pre ++ [x]).getLast?.getD 0 = x ∧ (pre ++ [x]).length = k + 1 ∧ suf.headD 0 = x2) := Lib.hid ⟨by rw [hps]; simp, by simp, by simp; exact hk, hx2⟩
                  have hkS : (k : Int) ≤ 48 := by omega
                  have x1I : (1 : Int) ≤ (x : Int) := by omega
                  have x96 : (x : Int) ≤ 96 := by omega
                  have k0 : (0 : Int) ≤ (k : Int) := by omega
                  have a0I : (0 : Int) ≤ (a : Int) := by omega
                  have x20 : (0 : Int) ≤ (x2 : Int) := by omega
                  have q1 : ((x : Int) - 1) / 2 = (qd : Int) := by omega
                  have q2 : ((x : Int) - 1) % 2 = (rd : Int) := by omega
                  have e3 : ((x : Int) - 1).tdiv 2 = (qd : Int) := (Int.tdiv_eq_ediv_of_nonneg (by omega)).trans q1
                  have e4 : ((x : Int) - 1).tmod 2 = (rd : Int) := (Int.tmod_eq_emod_of_nonneg (by omega)).trans q2
                  have q96 : (qd : Int) ≤ 96 := by omega
                  have r96 : (rd : Int) ≤ 96 := by omega
                  have wS : IntKind.i64.wrap (2 * S) = 2 * S := IntWalk.i64_in _ (by omega)
                  have w1x : IntKind.i64.wrap ((x : Int) - 1) = (x : Int) - 1 := IntWalk.i64_in _ (by omega)
                  have wqd : IntKind.i64.wrap (qd : Int) = (qd : Int) := IntWalk.i64_in _ (by omega)
                  have wa : IntKind.i64.wrap (a : Int) = (a : Int) := IntWalk.i64_in _ (by omega)
                  have wx2 : IntKind.i64.wrap (x2 : Int) = (x2 : Int) := IntWalk.i64_in _ (by omega)
                  have g1 : ¬ 2 * S < (k : Int) := by have := HLE.out; omega
                  have gd1 := decide_eq_false g1
                  have g2 : ¬ (x : Int) < 0 := by omega
                  have gd2 := decide_eq_false g2
                  have g3 : ¬ 2 * S < (x : Int) := by omega
                  have gd3 := decide_eq_false g3
                  have naa : ((a : Int) != (a : Int)) = false := bne_self_eq_false _
                  clear hx0 hps ha hx hql r1 r2 i1 i2 hqd hrd hPV hNX hP5 hN5 hx2 q1 q2
                  go_wp2_with fail
                  have Hd := Lib.hid HC.out.drew
                  clear HC
                  obtain ⟨⟨a0, a1, a2⟩, c0, c1, c2, c3, c4, c5, c6, c7, c8, c9⟩ := SC12.rule _ _ _ _ _ _ _ Hd.out.sc
                  have alt := Hd.out.fl.lt
                  have blt := Hd.out.fa.lt
                  have hrule := SC12.rule lo ab p (nv : Int) S T
                  go_region_held3 (fun W => SC12 W lo ab p (nv : Int) S T) (first | (with_reducible assumption) | (with_reducible exact H6.out.sc) | (with_reducible exact H5.out.sc) | (with_reducible exact Hd.out.sc))
                    (first
                      | (go_at_call 17; ((with_reducible refine (prev_yes _ _ _ _ _ HR.out _).mono ?_); rintro e w5 ⟨rfl, hb5⟩; rw [HPV.out]; have H5 := Lib.hid (Hd.out.below hb5)))
                      | ((with_reducible refine (ta_load H5.out.pm.ps.ta HP5.out (by omega) rfl).mono ?_); rintro e w6 ⟨rfl, A6, O6⟩; rw [HI1.out]; have H6 := Lib.hid (H5.out.next A6 O6))
                      | fail)
                  clear hrule c0 c1 c2 c3 c4 c5 c6 c7 c8 c9 a0 a1 a2 alt blt Hd A6 O6 H5 g1 gd1 g2 gd2 g3 gd3 naa wa wS
                  go_wp2_with fail
                  have Hd := Lib.hid H6.out.drew
                  clear H6
                  obtain ⟨⟨a0, a1, a2⟩, c0, c1, c2, c3, c4, c5, c6, c7, c8, c9⟩ := SC12.rule _ _ _ _ _ _ _ Hd.out.sc
                  have alt := Hd.out.fl.lt
                  have blt := Hd.out.fa.lt
                  have hrule := SC12.rule lo ab p (nv : Int) S T
                  go_region_held3 (fun W => SC12 W lo ab p (nv : Int) S T) (first | (with_reducible assumption) | (with_reducible exact H8.out.sc) | (with_reducible exact H7.out.sc) | (with_reducible exact Hd.out.sc))
                    (first
                      | (go_at_call 18; ((with_reducible refine (next_yes _ _ _ _ _ HR.out _).mono ?_); rintro e w7 ⟨rfl, hb7⟩; rw [HNX.out]; have H7 := Lib.hid (Hd.out.below hb7)))
                      | ((with_reducible refine (ta_load H7.out.pm.ps.ta HN5.out (by omega) rfl).mono ?_); rintro e w8 ⟨rfl, A8, O8⟩; rw [HI2.out]; have H8 := Lib.hid (H7.out.next A8 O8))
                      | fail)
                  clear hrule c0 c1 c2 c3 c4 c5 c6 c7 c8 c9 a0 a1 a2 alt blt Hd A8 O8 H7 e3 e4 wx2
                  go_wp2_with fail
                  go_roundw
                  case rel => exact ⟨pre ++ [x], suf, x, k + 1, x2, HPS.out.1, HPS.out.2.1, HPS.out.2.2.1, HPS.out.2.2.2, rfl, by simp, rfl, H8.out.more (by omega)⟩
                  case measure => have := congrArg List.length HPS.out.1; simp at this; have := HPS.out.2.2.1; simp at this; simp [intOf]; omega
            · have ek : l = nl := by omega
              subst ek
              have kI : ¬ (l : Int) < (l : Int) := by omega
              clear hl hln
              go_wp2_with fail
              exact ⟨⟨v + 1, by omega, by simp, HC.out.more (by omega)⟩, by simp [intOf]; omega⟩
        · have ek : v = nv := by omega
          subst ek
          have kI : ¬ (v : Int) < (v : Int) := by omega
          have HBW := Lib.hid (HW.out.trans (HC.out.pm.ps.be.mono HWS.out))
          clear hv hvn HC
          go_wp2_with fail
          refine (awake_any12 _).mono ?_; rintro e w9 ⟨rfl, hb9⟩
          have HBE := Lib.hid (HBW.out.trans (hb9.mono HBW.out.size))
          go_wp2_with fail
          go_ret
          exact ⟨rfl, HBE.out⟩
end
end Go.Proofs.Ytaooglagddphnaa
