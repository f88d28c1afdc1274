/- A list's row of sides, and whether a side is in it. Printed by wip/tools/adka.py. -/
import Derived.Test.YtaooglagddphnaaAdJ
namespace Go.Proofs.Ytaooglagddphnaa
open Go.RowKit

set_option maxRecDepth 100000

/-- What row has told so far. -/
def RwR14 (w0 : World) (b lb v l : Nat) (V S T : Int) (p gb cap m : Nat) (f : Nat → Int) (mk : Nat → Nat) (ts : List Tp) (L : List Nat) (vs x i : Value) (W : World) : Prop :=
  ∃ pre suf, L = pre ++ suf ∧ x = .int .u64 ((suf.headD 0 : Nat) : Int) ∧ i = .int .i64 (pre.length : Int) ∧ (pre.length : Int) ≤ S ∧ LU W vs pre ∧ (∀ k, bk vs = some k → w0.heap.size ≤ k) ∧ AY w0 W b lb v l V S T p gb cap (m + 1 + pre.length) f mk ts
/-- What row leaves. -/
def RwD14 (V S T : Int) (p gb cap m : Nat) (f : Nat → Int) (mk : Nat → Nat) (ts : List Tp) (L : List Nat) (w : World) (e : Ending) (w' : World) : Prop :=
  ∃ vs, e = .returned vs ∧ LU w' vs L ∧ (∀ k, bk vs = some k → w.heap.size ≤ k) ∧ TA w' V S T p gb cap m f mk ts ∧ Only p gb w w'
section
variable {V S T : Int} {w w' w0 : World} {p gb cap m s u v l b lb : Nat} {f : Nat → Int} {mk : Nat → Nat} {ts : List Tp} {q : Nat → Nat → List Nat} {bs : List E1} {r : Option Nat}
theorem TA.grown (h : TA w V S T p gb cap m f mk ts) (hg : w.grownBy w' r) (h1 : r ≠ some p) (h2 : r ≠ some gb) : TA w' V S T p gb cap m f mk ts := by
  obtain ⟨g, a, b, c⟩ := h
  exact ⟨g, a.grown hg h1 h2, b, c⟩
theorem LI.ne_ta {vs : Value} {L : List Nat} (h : LI w vs L) (A : TA w V S T p gb cap m f mk ts) : bk vs ≠ some p ∧ bk vs ≠ some gb := by
  obtain ⟨g, a, _⟩ := A
  exact h.ne_t a
theorem LI.ta {vs : Value} {L : List Nat} (h : LI w vs L) (A : TA w V S T p gb cap m f mk ts) (ho : Only p gb w w') : LI w' vs L := h.only ho (h.ne_ta A).1 (h.ne_ta A).2
theorem fresh_ne {k : Nat} {vs : Value} (h : ∀ k, bk vs = some k → w0.heap.size ≤ k) (hk : k < w0.heap.size) : bk vs ≠ some k := fun e => by have := h k e; omega
theorem AY.grown_u {vs : Value} {L : List Nat} (h : AY w0 w b lb v l V S T p gb cap m f mk ts) (hL : LU w vs L) (hp : p < w0.heap.size ∧ gb < w0.heap.size) (hg : w.grownBy w' (bk vs)) (hr : ∀ k, bk vs = some k → w0.heap.size ≤ k) : AY w0 w' b lb v l V S T p gb cap m f mk ts :=
  ⟨⟨Blk.grown h.x.e hg (hL.ne_blk h.x.e (by decide)), h.x.m.grown hg (fresh_ne hr hp.1) (fresh_ne hr hp.2), h.x.o.grown hg hr⟩, Blk.grown h.l hg (hL.ne_blk h.l (by decide))⟩
theorem S_nN (h : Rt V S T) : S.toNat ≤ nN V S := by
  have h1 := nN_int h
  have hz := sizes h
  have h2 : S * 1 ≤ S * sn V := Int.mul_le_mul_of_nonneg_left (by have := hz.sn1; omega) h.s1
  unfold nd at h1
  have := hz.vn1
  omega
theorem row_any14 (A : TA w V S T p gb cap m f mk ts) (hQ : LQ V S T f q) (hv : (v : Int) < V) (hl : (l : Int) < lv V) (hm : m ≤ 99900000) :
    Calls Try.prog 59 #[vA V S T p, vLs v l] w (RwD14 V S T p gb cap (m + 1 + ((q v l).take S.toNat).length) f mk ts ((q v l).take S.toNat) w) := by
  have H := Lib.hid (AY.new A v l)
  have HP := Lib.hid (And.intro A.p_lt A.g_lt)
  have HR := Lib.hid A.hR
  have s48 := A.hR.s2
  have s0 := A.hR.s1
  have hh := (hQ.pt v l hv hl).1
  have hQ9 := Lib.hid hQ
  obtain ⟨L, hL⟩ : ∃ L, q v l = L := ⟨_, rfl⟩
  rw [hL] at hh ⊢
  have HL := Lib.hid hL
  have HH : Hid (f (nxA V S T v l 0) = ((L.headD 0 : Nat) : Int)) := Lib.hid (by unfold nxA; rw [if_pos rfl]; exact hh)
  clear A hQ hh hL
  go_enter Try.func59, Try.ntmps59
  go_wp2_with fail
  generalize ((w.alloc (.cells #[.int .i64 V, .int .i64 S, .int .i64 T, .iface 84 (pmV p), .int .i64 1, .int .i64 0, .int .i64 V, .int .i64 S, .int .i64 T, .iface 84 (pmV p)] 38)).alloc (.cells #[.int .i64 (v : Int), .int .i64 (l : Int)] 105)) = w1 at H ⊢
  generalize w.heap.size + 1 = lb at H ⊢
  generalize hbw : w.heap.size = b at H ⊢
  refine (behind_any (x := 0) H.out.x.m hv hl (by omega) (by omega) rfl).mono ?_; rintro e w2 ⟨rfl, A2, O2⟩; rw [HH.out]
  have H2 := Lib.hid (H.out.next A2 O2)
  have HRel : Hid (RwR14 w b lb v l V S T p gb cap m f mk ts L (.slice none 0 0) (.int .u64 ((L.headD 0 : Nat) : Int)) (.int .i64 0) w2) := Lib.hid ⟨[], L, rfl, rfl, rfl, s0, LU.nil _, fun i hi => by simp [bk] at hi, H2.out⟩
  obtain ⟨c0, c1, c2, c3, c4, c5, c6, c7, c8, c9⟩ := H2.out.x.e.cells
  have blt := H2.out.x.e.lt
  clear H A2 O2 H2
  generalize L.headD 0 = h0 at HRel ⊢
  go_wp2_with fail
  clear c0 c1 c2 c3 c4 c5 c6 c7 c8 c9 blt
  go_loopw [5, 6, 16] (fun vs x i wr => RwR14 w b lb v l V S T p gb cap m f mk ts L vs x i wr) (fun _ _ i _ => S.toNat - (intOf i).toNat)
  case atStart => exact HRel.out
  case round =>
    clear HRel HH
    obtain ⟨pre, suf, hps, rfl, rfl, hpl, hli, hbk, hY⟩ := hrel
    have HY := Lib.hid hY
    have HLI := Lib.hid hli
    have HBK := Lib.hid hbk
    have HPS := Lib.hid hps
    obtain ⟨ao, vc, hvs, _, _⟩ := hli.shape
    subst hvs
    clear hY hli hbk hps
    by_cases hj : (pre.length : Int) < S
    · cases suf with
      | nil =>
        as_aux_lemma =>
        obtain ⟨c0, c1, c2, c3, c4, c5, c6, c7, c8, c9⟩ := HY.out.x.e.cells
        have blt := HY.out.x.e.lt
        obtain ⟨d0, d1⟩ := HY.out.l.cells
        have dlt := HY.out.l.lt
        go_wp2_with fail
        refine (slot_zero HR.out _).mono ?_; rintro e w3 ⟨rfl, hb3⟩
        have HY3 := Lib.hid (HY.out.below hb3)
        have HLI3 := Lib.hid (HLI.out.below hb3)
        clear HY HLI hb3 c0 c1 c2 c3 c4 c5 c6 c7 c8 c9 blt d0 d1 dlt
        go_wp2_with fail
        go_ret
        have e : pre = L.take S.toNat := by rw [HPS.out, List.append_nil, List.take_of_length_le (by omega)]
        rw [← e]
        exact ⟨_, rfl, HLI3.out, HBK.out, HY3.out.x.m, HY3.out.x.o⟩
      | cons x suf =>
        as_aux_lemma =>
        have hql : q v l = pre ++ x :: suf := by rw [HL.out]; exact HPS.out
        obtain ⟨x1, x2⟩ := hQ9.out.rg v l x (by rw [hql]; simp)
        obtain ⟨_, i2, _⟩ := hQ9.out.live hv hl hql
        have HNA : Hid (f (nxA V S T v l x) = ((suf.headD 0 : Nat) : Int)) := Lib.hid (by unfold nxA; rw [if_neg (by omega)]; exact i2)
        clear hql i2
        obtain ⟨s9, hs9⟩ : ∃ s9, (x - 1) / 2 = s9 := ⟨_, rfl⟩
        have HS := Lib.hid hs9
        clear hs9
        have hp5 : pre.length ≤ 100000 := by omega
        show _
        simp only [List.headD_cons]
        obtain ⟨c0, c1, c2, c3, c4, c5, c6, c7, c8, c9⟩ := HY.out.x.e.cells
        have blt := HY.out.x.e.lt
        obtain ⟨d0, d1⟩ := HY.out.l.cells
        have dlt := HY.out.l.lt
        go_wp2_with fail
        refine (slot_some HR.out x1 x2 HS.out _).mono ?_; rintro e w3 ⟨rfl, hb3⟩
        have HY3 := Lib.hid (HY.out.below hb3)
        have HLI3 := Lib.hid (HLI.out.below hb3)
        clear HY HLI hb3 c0 c1 c2 c3 c4 c5 c6 c7 c8 c9 blt d0 d1 dlt
        obtain ⟨c0, c1, c2, c3, c4, c5, c6, c7, c8, c9⟩ := HY3.out.x.e.cells
        have blt := HY3.out.x.e.lt
        obtain ⟨d0, d1⟩ := HY3.out.l.cells
        have dlt := HY3.out.l.lt
        go_wp2_with (at_builtin; refine wpList_append_lu _ rfl _ _ rfl rfl (HLI3.out.alloc _) ⟨w3.heap.size, 0, none⟩ 1 x rfl (cell_new1 _ _ _) hp5 ?_)
        intro v' w4 hli4 hg4 hbk4
        have HLa := HLI3.out.alloc (.cells #[.int .u64 (x : Int)] 51)
        have HY4 := Lib.hid (AY.grown_u (HY3.out.below ((Below.refl _ _).alloc (Nat.le_refl _) (.cells #[.int .u64 (x : Int)] 51))) HLa HP.out hg4 HBK.out)
        have HB4 : Hid (∀ k, bk v' = some k → w.heap.size ≤ k) := by
          refine Lib.hid fun i hi => ?_
          rcases hbk4 with e | ⟨k, e, hk⟩
          · exact HBK.out i (e ▸ hi)
          · rw [hi] at e; cases e
            have := HY3.out.x.o.size
            omega
        have HLI4 := Lib.hid hli4
        clear HLa hli4 hg4 hbk4 HY3 HLI3 HBK c0 c1 c2 c3 c4 c5 c6 c7 c8 c9 blt d0 d1 dlt
        obtain ⟨c0, c1, c2, c3, c4, c5, c6, c7, c8, c9⟩ := HY4.out.x.e.cells
        have blt := HY4.out.x.e.lt
        obtain ⟨d0, d1⟩ := HY4.out.l.cells
        have dlt := HY4.out.l.lt
        go_wp2_with fail
        refine (behind_any (x := x) HY4.out.x.m hv hl x2 (by omega) rfl).mono ?_; rintro e w5 ⟨rfl, A5, O5⟩; rw [HNA.out]
        have HY5 := Lib.hid (HY4.out.next A5 O5)
        have HLI5 := Lib.hid (HLI4.out.only O5 (fresh_ne HB4.out HP.out.1) (fresh_ne HB4.out HP.out.2))
        have hRel : Hid (RwR14 w b lb v l V S T p gb cap m f mk ts L v' (.int .u64 ((suf.headD 0 : Nat) : Int)) (.int .i64 ((pre.length : Int) + 1)) w5) := Lib.hid ⟨pre ++ [x], suf, by rw [HPS.out]; simp, rfl, by simp, by simp; omega, HLI5.out, HB4.out, ⟨⟨HY5.out.x.e, HY5.out.x.m.more (by simp; omega), HY5.out.x.o⟩, HY5.out.l⟩⟩
        clear HY4 HY5 HLI4 HLI5 HB4 A5 O5 c0 c1 c2 c3 c4 c5 c6 c7 c8 c9 blt d0 d1 dlt HNA
        generalize suf.headD 0 = h1 at hRel ⊢
        go_wp2_with fail
        go_roundw
        case rel => exact hRel.out
        case measure => simp [intOf]; omega
    · as_aux_lemma =>
      generalize suf.headD 0 = h1
      go_wp2_with fail
      go_ret
      have e : pre = L.take S.toNat := by rw [HPS.out, show S.toNat = pre.length by omega, List.take_left']; rfl
      exact ⟨_, rfl, by rw [← e]; exact HLI.out, HBK.out, HY.out.x.m.more (by have h9 := congrArg List.length e; rw [List.length_take] at h9; (try rw [List.length_take]); omega), HY.out.x.o⟩
def IxRel14 (w0 : World) (l : List Nat) (x : Nat) (i : Value) (W : World) : Prop := W = w0 ∧ ∃ k, k ≤ l.length ∧ i = .int .i64 ((k : Nat) : Int) ∧ x ∉ l.take k
theorem uindex14 {v : Value} {l : List Nat} {x : Nat} (h : LU w v l) (hl : l.length ≤ 100000) {xI : Int} (hxI : xI = (x : Int)) :
    Calls Try.prog 135 #[v, .int .u64 xI] w fun e w' => ∃ r : Int, e = .returned (.int .i64 r) ∧ decide (0 ≤ r) = decide (x ∈ l) ∧ w = w' := by
  subst hxI
  obtain ⟨a0, c0, rfl, _⟩ := h.shape
  have H := Lib.hid h
  obtain ⟨n, hn⟩ : ∃ n, l.length = n := ⟨_, rfl⟩
  have HN := Lib.hid hn
  rw [hn] at H hl
  rw [hn]
  have nI : (n : Int) ≤ 100000 := by omega
  clear h hn
  have HRel : Hid (IxRel14 w l x (.int .i64 0) w) := Lib.hid ⟨rfl, 0, Nat.zero_le _, rfl, by simp⟩
  go_enter Try.func135, Try.ntmps135
  go_wp2_with fail
  go_loopw [8] (fun i wr => IxRel14 w l x i wr) (fun i _ => n - (intOf i).toNat)
  case atStart => exact HRel.out
  case round =>
    clear HRel
    obtain ⟨rfl, k, hk, rfl, hx⟩ := hrel
    have HX := Lib.hid hx
    rw [HN.out] at hk
    clear hx
    by_cases hkn : k < n
    · obtain ⟨y, hy⟩ : ∃ y, l[k]? = some y := ⟨_, List.getElem?_eq_getElem (by have := HN.out; omega)⟩
      obtain ⟨b1, o1, rfl, c1⟩ := H.out.at hy
      have HY := Lib.hid hy
      have kI : (k : Int) < (n : Int) := by omega
      have k0 : (0 : Int) ≤ (k : Int) := by omega
      clear hy
      by_cases e : x = y
      · subst e
        have eb : ((x : Int) == (x : Int)) = true := beq_self_eq_true _
        have HE : Hid (x ∈ l) := Lib.hid (List.mem_of_getElem? HY.out)
        go_wp2_with fail
        go_ret
        exact ⟨_, rfl, by rw [decide_eq_true HE.out, decide_eq_true (Int.natCast_nonneg k)], rfl⟩
      · have eb : ((x : Int) == (y : Int)) = false := beq_eq_false_iff_ne.2 (by omega)
        have HE := Lib.hid e
        clear e
        go_wp2_with fail
        go_roundw
        case rel =>
          refine ⟨rfl, k + 1, by have := HN.out; omega, by simp, ?_⟩
          rw [List.take_add_one, HY.out]
          intro hm
          rcases List.mem_append.1 hm with hm | hm
          · exact HX.out hm
          · exact HE.out (by simpa using hm)
        case measure => simp [intOf]; omega
    · have ek : k = n := by omega
      subst ek
      have kI : ¬ (k : Int) < (k : Int) := by omega
      clear hk hkn
      go_wp2_with fail
      go_ret
      have hx9 : x ∉ l := by have := HX.out; rw [← HN.out, List.take_length] at this; exact this
      exact ⟨_, rfl, by simp [hx9], rfl⟩
theorem ucontains14 {v : Value} {l : List Nat} {x : Nat} (h : LU w v l) (hl : l.length ≤ 100000) {xI : Int} (hxI : xI = (x : Int)) :
    Calls Try.prog 121 #[v, .int .u64 xI] w fun e w' => e = .returned (.bool (decide (x ∈ l))) ∧ w = w' := by
  subst hxI
  have H := Lib.hid h
  clear h
  go_enter Try.func121, Try.ntmps121
  go_wp2_with fail
  refine (uindex14 H.out hl rfl).mono ?_; rintro e w1 ⟨r, rfl, hr, rfl⟩
  go_wp2_with fail
  go_ret
  refine ⟨?_, rfl⟩
  rw [← hr]; rfl
theorem has_any14 (A : TA w V S T p gb cap m f mk ts) (hQ : LQ V S T f q) (hv : (v : Int) < V) (hl : (l : Int) < lv V) {x : Nat} (hm : m ≤ 99900000) :
    Calls Try.prog 91 #[vA V S T p, vLs v l, .int .u64 (x : Int)] w (Dta V S T p gb cap (m + 1 + S.toNat) f mk ts (.bool (decide (x ∈ (q v l).take S.toNat))) w) := by
  have H := Lib.hid (AY.new A v l)
  have HQ := Lib.hid hQ
  have s48 := A.hR.s2
  have HL : Hid (((q v l).take S.toNat).length ≤ S.toNat) := Lib.hid (by rw [List.length_take]; omega)
  obtain ⟨L, hL⟩ : ∃ L, (q v l).take S.toNat = L := ⟨_, rfl⟩
  have HLL := Lib.hid hL
  rw [hL] at HL ⊢
  clear A hQ hL
  go_enter Try.func91, Try.ntmps91
  go_wp2_with fail
  generalize ((w.alloc (.cells #[.int .i64 V, .int .i64 S, .int .i64 T, .iface 84 (pmV p), .int .i64 1, .int .i64 0, .int .i64 V, .int .i64 S, .int .i64 T, .iface 84 (pmV p)] 38)).alloc (.cells #[.int .i64 (v : Int), .int .i64 (l : Int)] 105)) = w1 at H ⊢
  generalize w.heap.size = B at H ⊢
  have hr := row_any14 H.out.x.m HQ.out hv hl hm
  rw [HLL.out] at hr
  refine hr.mono ?_; rintro e w2 ⟨vs, rfl, L2, N2, A2, O2⟩
  have H2 := Lib.hid (H.out.next A2 O2)
  have HL2 := Lib.hid L2
  clear hr A2 O2 H L2 N2
  go_wp2_with fail
  refine (ucontains14 HL2.out (by have := HL.out; omega) rfl).mono ?_; rintro e w3 ⟨rfl, rfl⟩
  go_wp2_with fail
  go_ret
  exact ⟨rfl, H2.out.x.m.more (by have := HL.out; omega), H2.out.x.o⟩
theorem take_all14 {L : List Nat} (h : (L.length : Int) ≤ S) : L.take S.toNat = L := List.take_of_length_le (by omega)
theorem has_no14 (A : TA w V S T p gb cap m f mk ts) (hQ : LQ V S T f q) (hv : (v : Int) < V) (hl : (l : Int) < lv V) {x : Nat} (hx : x ∉ q v l) (hm : m ≤ 99900000) :
    Calls Try.prog 91 #[vA V S T p, vLs v l, .int .u64 (x : Int)] w (Dta V S T p gb cap (m + 2 + nN V S) f mk ts (.bool false) w) := by
  have hn := S_nN A.hR
  refine (has_any14 (x := x) A hQ hv hl hm).mono ?_; rintro e w2 ⟨rfl, A2, O2⟩
  exact ⟨by rw [decide_eq_false fun h => hx (List.mem_of_mem_take h)], A2.more (by omega), O2⟩
theorem has_yes14 (A : TA w V S T p gb cap m f mk ts) (hQ : LQ V S T f q) (hv : (v : Int) < V) (hl : (l : Int) < lv V) {x : Nat} (hx : x ∈ q v l) (hlen : ((q v l).length : Int) ≤ S) (hm : m ≤ 99900000) :
    Calls Try.prog 91 #[vA V S T p, vLs v l, .int .u64 (x : Int)] w (Dta V S T p gb cap (m + 2 + nN V S) f mk ts (.bool true) w) := by
  have hn := S_nN A.hR
  refine (has_any14 (x := x) A hQ hv hl hm).mono ?_; rintro e w2 ⟨rfl, A2, O2⟩
  exact ⟨by rw [take_all14 hlen, decide_eq_true hx], A2.more (by omega), O2⟩
end
end Go.Proofs.Ytaooglagddphnaa
