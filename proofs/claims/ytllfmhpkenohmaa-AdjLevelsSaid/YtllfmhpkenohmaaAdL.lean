/- First and List of lists. -/
import Derived.Test.YtllfmhpkenohmaaAdK
namespace Go.Proofs.Ytllfmhpkenohmaa
open Go.RowKit

set_option maxRecDepth 100000

theorem nodup_len12 : ∀ {S : Nat} {l : List Nat}, l.Nodup → (∀ x ∈ l, x < S) → l.length ≤ S
  | 0, l, _, h => by
    cases l with
    | nil => simp
    | cons a l => exact absurd (h a (by simp)) (by omega)
  | S + 1, l, hn, h => by
    have h1 := nodup_len12 (S := S) (l := l.erase S) (hn.erase S) fun x hx => by
      have h2 := (List.Nodup.mem_erase_iff hn).1 hx
      have h3 := h x h2.2
      omega
    have h4 := List.length_erase (a := S) (l := l)
    split at h4 <;> omega
/-- What First tells. -/
def fsV : List Nat → Value
  | [] => .tuple #[.int .i64 0, .bool false]
  | s :: _ => .tuple #[.int .i64 (s : Int), .bool true]
/-- What List has told so far. -/
def LtR12 (w0 : World) (b lb v l : Nat) (V S T : Int) (p gb cap m : Nat) (f : Nat → Int) (mk : Nat → Nat) (ts : List Tp) (L : List Nat) (vs x i : Value) (W : World) : Prop :=
  ∃ pre suf, L = pre ++ suf ∧ x = .int .u64 ((suf.headD 0 : Nat) : Int) ∧ i = .int .i64 (pre.length : Int) ∧ LI W vs (pre.map fun x => (x - 1) / 2) ∧ (∀ k, bk vs = some k → w0.heap.size ≤ k) ∧ AY w0 W b lb v l V S T p gb cap (m + 1 + pre.length) f mk ts
/-- What List leaves. -/
def LtD12 (V S T : Int) (p gb cap m : Nat) (f : Nat → Int) (mk : Nat → Nat) (ts : List Tp) (L : List Nat) (w : World) (e : Ending) (w' : World) : Prop :=
  ∃ vs, e = .returned vs ∧ LI w' vs L ∧ (∀ k, bk vs = some k → w.heap.size ≤ k) ∧ TA w' V S T p gb cap m f mk ts ∧ Only p gb w w'
section
variable {V S T : Int} {w w' w0 : World} {p gb cap m s u v l b lb : Nat} {f : Nat → Int} {mk : Nat → Nat} {ts : List Tp} {q : Nat → Nat → List Nat} {bs : List E1} {r : Option Nat}
theorem TA.grown (h : TA w V S T p gb cap m f mk ts) (hg : w.grownBy w' r) (h1 : r ≠ some p) (h2 : r ≠ some gb) : TA w' V S T p gb cap m f mk ts := by
  obtain ⟨g, a, b, c⟩ := h
  exact ⟨g, a.grown hg h1 h2, b, c⟩
theorem LI.ne_ta {vs : Value} {L : List Nat} (h : LI w vs L) (A : TA w V S T p gb cap m f mk ts) : bk vs ≠ some p ∧ bk vs ≠ some gb := by
  obtain ⟨g, a, _⟩ := A
  exact h.ne_t a
theorem LI.ta {vs : Value} {L : List Nat} (h : LI w vs L) (A : TA w V S T p gb cap m f mk ts) (ho : Only p gb w w') : LI w' vs L := h.only ho (h.ne_ta A).1 (h.ne_ta A).2
theorem AY.grown {vs : Value} {L : List Nat} (h : AY w0 w b lb v l V S T p gb cap m f mk ts) (hL : LI w vs L) (hg : w.grownBy w' (bk vs)) (hr : ∀ k, bk vs = some k → w0.heap.size ≤ k) : AY w0 w' b lb v l V S T p gb cap m f mk ts :=
  ⟨⟨Blk.grown h.x.e hg (hL.ne_blk h.x.e (by decide)), h.x.m.grown hg (hL.ne_ta h.x.m).1 (hL.ne_ta h.x.m).2, h.x.o.grown hg hr⟩, Blk.grown h.l hg (hL.ne_blk h.l (by decide))⟩
/-- A list's slots: each once. -/
theorem dl_nodup (h : LK q bs) (hq : LQ V S T (f) q) (hs : bs.Pairwise fun a b => a.s ≠ b.s ∧ ¬ (a.u = b.u ∧ a.v = b.v)) (hne : ∀ e ∈ bs, e.u ≠ e.v) : (dl q v l).Nodup := by
  have uniq : ∀ e ∈ bs, ∀ e' ∈ bs, e.s = e'.s → e = e' := fun e he e' he' es => by
    obtain ⟨i, hi⟩ := List.mem_iff_getElem?.1 he
    obtain ⟨j, hj⟩ := List.mem_iff_getElem?.1 he'
    have ⟨h1, e1⟩ := List.getElem?_eq_some_iff.1 hi
    have ⟨h2, e2⟩ := List.getElem?_eq_some_iff.1 hj
    rcases Nat.lt_trichotomy i j with c | c | c
    · have := (List.pairwise_iff_getElem.1 hs i j h1 h2 c).1
      rw [e1, e2] at this; exact absurd es this
    · subst c; rw [hi] at hj; injection hj
    · have := (List.pairwise_iff_getElem.1 hs j i h2 h1 c).1
      rw [e1, e2] at this; exact absurd es.symm this
  unfold dl
  refine List.pairwise_map.2 (List.Pairwise.imp_of_mem ?_ (hq.nd v l))
  intro a b ha hb hab e
  obtain ⟨e1, g1, g2, g3⟩ := (h v l a).1 ha
  obtain ⟨e2, k1, k2, k3⟩ := (h v l b).1 hb
  have := uniq e1 g1 e2 k1 (by omega)
  subst this
  have := hne e1 g1
  omega
theorem dl_len (hR : Rt V S T) (h : LK q bs) (hq : LQ V S T f q) (hs : bs.Pairwise fun a b => a.s ≠ b.s ∧ ¬ (a.u = b.u ∧ a.v = b.v)) (hne : ∀ e ∈ bs, e.u ≠ e.v) : ((q v l).length : Int) ≤ S := by
  have h1 := nodup_len12 (S := S.toNat) (dl_nodup (v := v) (l := l) h hq hs hne) (fun x hx => by
    obtain ⟨y, hy, rfl⟩ := List.mem_map.1 hx
    have := hq.rg v l y hy
    omega)
  unfold dl at h1
  rw [List.length_map] at h1
  have := hR.s1
  omega
theorem behind_zero (A : TA w V S T p gb cap m f mk ts) (hv : (v : Int) < V) (hl : (l : Int) < lv V) (hm : m ≤ 1000000) :
    Calls Try.prog 42 #[vA V S T p, vLs v l, .int .u64 0] w (Dta V S T p gb cap (m + 1) f mk ts (.int .u64 (f (nxA V S T v l 0))) w) := behind_any (x := 0) A hv hl (by have := A.hR.s1; omega) hm rfl
theorem first_any12 (A : TA w V S T p gb cap m f mk ts) (hQ : LQ V S T f q) (hv : (v : Int) < V) (hl : (l : Int) < lv V) (hm : m ≤ 900000) {vI lI : Int} (hvI : vI = (v : Int)) (hlI : lI = (l : Int)) :
    Calls Try.prog 16 #[vA V S T p, .int .i64 vI, .int .i64 lI] w (Dta V S T p gb cap (m + 1) f mk ts (fsV (dl q v l)) w) := by
  subst hvI hlI
  have H := Lib.hid (AX.new A)
  have HR := Lib.hid A.hR
  have hh := (hQ.pt v l hv hl).1
  have hle := hQ.head_le (v := v) (l := l) A.hR.s1
  have hz := hQ.head_zero (v := v) (l := l)
  have hfs : fsV (dl q v l) = if (q v l).headD 0 = 0 then .tuple #[.int .i64 0, .bool false] else .tuple #[.int .i64 ((((q v l).headD 0 - 1) / 2 : Nat) : Int), .bool true] := by
    unfold dl
    by_cases c : q v l = []
    · rw [if_pos (hz.2 c), c]; rfl
    · rw [if_neg fun e => c (hz.1 e)]
      cases hq9 : q v l with
      | nil => exact absurd hq9 c
      | cons x L => rfl
  rw [hfs]
  clear hfs hz hQ A
  generalize (q v l).headD 0 = h at hh hle ⊢
  have HH : Hid (f (nxA V S T v l 0) = (h : Int)) := Lib.hid (by unfold nxA; rw [if_pos rfl]; exact hh)
  clear hh
  by_cases h0 : h = 0
  · subst h0
    rw [if_pos rfl]
    as_aux_lemma =>
    go_enter Try.func16, Try.ntmps16
    go_wp2_with fail
    generalize (w.alloc (.cells #[.int .i64 V, .int .i64 S, .int .i64 T, .iface 72 (pmV p), .int .i64 1, .int .i64 0, .int .i64 V, .int .i64 S, .int .i64 T, .iface 72 (pmV p)] 38)) = w1 at H ⊢
    generalize w.heap.size = b at H ⊢
    have HD := Lib.hid H.out.drew
    have hrule := AjB.rule b V S T p
    go_region_held3 (fun W => AjB W b V S T p) (first | (with_reducible assumption) | (with_reducible exact H3.out.e) | (with_reducible exact H2.out.e) | (with_reducible exact HD.out.e))
      (first
        | (go_at_call 42; ((with_reducible refine (behind_zero HD.out.m hv hl (by omega)).mono ?_); rintro e w2 ⟨rfl, A2, O2⟩; rw [HH.out]; have H2 := Lib.hid (HD.out.next A2 O2)))
        | (go_at_call 41; ((with_reducible refine (slot_zero HR.out _).mono ?_); rintro e w3 ⟨rfl, hb3⟩; have H3 := Lib.hid (H2.out.below hb3)))
        | fail)
    go_wp2_with fail
    go_ret2
    exact ⟨rfl, H3.out.m, H3.out.o⟩
  · rw [if_neg h0]
    as_aux_lemma =>
    obtain ⟨s9, hs9⟩ : ∃ s9, (h - 1) / 2 = s9 := ⟨_, rfl⟩
    rw [hs9]
    have HS := Lib.hid hs9
    clear hs9
    have hz0 : (0 : Int) ≤ (h : Int) := Int.natCast_nonneg _
    go_enter Try.func16, Try.ntmps16
    go_wp2_with fail
    generalize (w.alloc (.cells #[.int .i64 V, .int .i64 S, .int .i64 T, .iface 72 (pmV p), .int .i64 1, .int .i64 0, .int .i64 V, .int .i64 S, .int .i64 T, .iface 72 (pmV p)] 38)) = w1 at H ⊢
    generalize w.heap.size = b at H ⊢
    have HD := Lib.hid H.out.drew
    have hrule := AjB.rule b V S T p
    go_region_held3 (fun W => AjB W b V S T p) (first | (with_reducible assumption) | (with_reducible exact H3.out.e) | (with_reducible exact H2.out.e) | (with_reducible exact HD.out.e))
      (first
        | (go_at_call 42; ((with_reducible refine (behind_zero HD.out.m hv hl (by omega)).mono ?_); rintro e w2 ⟨rfl, A2, O2⟩; rw [HH.out]; have H2 := Lib.hid (HD.out.next A2 O2)))
        | (go_at_call 41; ((with_reducible refine (slot_some HR.out (by omega) hle HS.out _).mono ?_); rintro e w3 ⟨rfl, hb3⟩; have H3 := Lib.hid (H2.out.below hb3)))
        | fail)
    go_wp2_with fail
    go_ret2
    exact ⟨rfl, H3.out.m, H3.out.o⟩
theorem list_any12 (A : TA w V S T p gb cap m f mk ts) (hQ : LQ V S T f q) (hlen : ((q v l).length : Int) ≤ S) (hv : (v : Int) < V) (hl : (l : Int) < lv V) (hm : m ≤ 900000) {vI lI : Int} (hvI : vI = (v : Int)) (hlI : lI = (l : Int)) :
    Calls Try.prog 17 #[vA V S T p, .int .i64 vI, .int .i64 lI] w (LtD12 V S T p gb cap (m + 1 + (q v l).length) f mk ts (dl q v l) w) := by
  subst hvI hlI
  have H := Lib.hid (AY.new A v l)
  have HR := Lib.hid A.hR
  have s48 := A.hR.s2
  have s0 := A.hR.s1
  have hh := (hQ.pt v l hv hl).1
  have hQ9 := Lib.hid hQ
  obtain ⟨L, hL⟩ : ∃ L, q v l = L := ⟨_, rfl⟩
  unfold dl
  rw [hL] at hh hlen ⊢
  have HL := Lib.hid hL
  have HH : Hid (f (nxA V S T v l 0) = ((L.headD 0 : Nat) : Int)) := Lib.hid (by unfold nxA; rw [if_pos rfl]; exact hh)
  clear A hQ hh hL
  go_enter Try.func17, Try.ntmps17
  go_wp2_with fail
  generalize ((w.alloc (.cells #[.int .i64 V, .int .i64 S, .int .i64 T, .iface 72 (pmV p), .int .i64 1, .int .i64 0, .int .i64 V, .int .i64 S, .int .i64 T, .iface 72 (pmV p)] 38)).alloc (.cells #[.int .i64 (v : Int), .int .i64 (l : Int)] 86)) = w1 at H ⊢
  generalize w.heap.size + 1 = lb at H ⊢
  generalize hbw : w.heap.size = b at H ⊢
  refine (behind_any (x := 0) H.out.x.m hv hl (by omega) (by omega) rfl).mono ?_; rintro e w2 ⟨rfl, A2, O2⟩; rw [HH.out]
  have H2 := Lib.hid (H.out.next A2 O2)
  have HRel : Hid (LtR12 w b lb v l V S T p gb cap m f mk ts L (.slice none 0 0) (.int .u64 ((L.headD 0 : Nat) : Int)) (.int .i64 0) w2) := Lib.hid ⟨[], L, rfl, rfl, rfl, LI.nil _, fun i hi => by simp [bk] at hi, H2.out⟩
  obtain ⟨c0, c1, c2, c3, c4, c5, c6, c7, c8, c9⟩ := H2.out.x.e.cells
  have blt := H2.out.x.e.lt
  clear H A2 O2 H2
  generalize L.headD 0 = h0 at HRel ⊢
  go_wp2_with fail
  clear c0 c1 c2 c3 c4 c5 c6 c7 c8 c9 blt
  go_loopw [8, 9, 22] (fun vs x i wr => LtR12 w b lb v l V S T p gb cap m f mk ts L vs x i wr) (fun _ _ i _ => S.toNat - (intOf i).toNat)
  case atStart => exact HRel.out
  case round =>
    clear HRel HH
    obtain ⟨pre, suf, hps, rfl, rfl, hli, hbk, hY⟩ := hrel
    have HY := Lib.hid hY
    have HLI := Lib.hid hli
    have HBK := Lib.hid hbk
    have HPS := Lib.hid hps
    have hsum : pre.length + suf.length = L.length := by rw [hps]; simp
    obtain ⟨ao, vc, hvs, _, _⟩ := hli.shape
    rw [List.length_map] at hvs
    subst hvs
    clear hY hli hbk hps
    by_cases hj : (pre.length : Int) < S
    · cases suf with
      | nil =>
        as_aux_lemma =>
        obtain ⟨c0, c1, c2, c3, c4, c5, c6, c7, c8, c9⟩ := HY.out.x.e.cells
        have blt := HY.out.x.e.lt
        obtain ⟨d0, d1⟩ := HY.out.l.cells
        have dlt := HY.out.l.lt
        go_wp2_with fail
        refine (slot_zero HR.out _).mono ?_; rintro e w3 ⟨rfl, hb3⟩
        have HY3 := Lib.hid (HY.out.below hb3)
        have HLI3 := Lib.hid (HLI.out.below hb3)
        clear HY HLI hb3 c0 c1 c2 c3 c4 c5 c6 c7 c8 c9 blt d0 d1 dlt
        go_wp2_with fail
        go_ret
        have e : pre = L := by rw [HPS.out]; simp
        subst e
        exact ⟨_, rfl, HLI3.out, HBK.out, HY3.out.x.m, HY3.out.x.o⟩
      | cons x suf =>
        as_aux_lemma =>
        have hql : q v l = pre ++ x :: suf := by rw [HL.out]; exact HPS.out
        obtain ⟨x1, x2⟩ := hQ9.out.rg v l x (by rw [hql]; simp)
        obtain ⟨_, i2, _⟩ := hQ9.out.live hv hl hql
        have HNA : Hid (f (nxA V S T v l x) = ((suf.headD 0 : Nat) : Int)) := Lib.hid (by unfold nxA; rw [if_neg (by omega)]; exact i2)
        clear hql i2
        obtain ⟨s9, hs9⟩ : ∃ s9, (x - 1) / 2 = s9 := ⟨_, rfl⟩
        have HS := Lib.hid hs9
        clear hs9
        have hp5 : (pre.map fun x => (x - 1) / 2).length ≤ 100000 := by rw [List.length_map]; omega
        show _
        simp only [List.headD_cons]
        obtain ⟨c0, c1, c2, c3, c4, c5, c6, c7, c8, c9⟩ := HY.out.x.e.cells
        have blt := HY.out.x.e.lt
        obtain ⟨d0, d1⟩ := HY.out.l.cells
        have dlt := HY.out.l.lt
        go_wp2_with fail
        refine (slot_some HR.out x1 x2 HS.out _).mono ?_; rintro e w3 ⟨rfl, hb3⟩
        have HY3 := Lib.hid (HY.out.below hb3)
        have HLI3 := Lib.hid (HLI.out.below hb3)
        clear HY HLI hb3 c0 c1 c2 c3 c4 c5 c6 c7 c8 c9 blt d0 d1 dlt
        obtain ⟨c0, c1, c2, c3, c4, c5, c6, c7, c8, c9⟩ := HY3.out.x.e.cells
        have blt := HY3.out.x.e.lt
        obtain ⟨d0, d1⟩ := HY3.out.l.cells
        have dlt := HY3.out.l.lt
        go_wp2_with (at_builtin; refine wpList_append_li _ rfl _ _ rfl rfl (HLI3.out.alloc _) ⟨w3.heap.size, 0, none⟩ 1 s9 rfl (cell_new1 _ _ _) hp5 ?_)
        intro v' w4 hli4 hg4 hbk4
        have HLa := HLI3.out.alloc (.cells #[.int .i64 (s9 : Int)] 3)
        have HY4 := Lib.hid (AY.grown (HY3.out.below ((Below.refl _ _).alloc (Nat.le_refl _) (.cells #[.int .i64 (s9 : Int)] 3))) HLa hg4 HBK.out)
        have HB4 : Hid (∀ k, bk v' = some k → w.heap.size ≤ k) := by
          refine Lib.hid fun i hi => ?_
          rcases hbk4 with e | ⟨k, e, hk⟩
          · exact HBK.out i (e ▸ hi)
          · rw [hi] at e; cases e
            have := HY3.out.x.o.size
            omega
        have HLI4 : Hid (LI w4 v' ((pre ++ [x]).map fun x => (x - 1) / 2)) := Lib.hid (by rw [List.map_append, List.map_singleton, HS.out]; exact hli4)
        clear HLa hli4 hg4 hbk4 HY3 HLI3 HBK c0 c1 c2 c3 c4 c5 c6 c7 c8 c9 blt d0 d1 dlt
        obtain ⟨c0, c1, c2, c3, c4, c5, c6, c7, c8, c9⟩ := HY4.out.x.e.cells
        have blt := HY4.out.x.e.lt
        obtain ⟨d0, d1⟩ := HY4.out.l.cells
        have dlt := HY4.out.l.lt
        go_wp2_with fail
        refine (behind_any (x := x) HY4.out.x.m hv hl x2 (by omega) rfl).mono ?_; rintro e w5 ⟨rfl, A5, O5⟩; rw [HNA.out]
        have HY5 := Lib.hid (HY4.out.next A5 O5)
        have HLI5 := Lib.hid (HLI4.out.ta HY4.out.x.m O5)
        have hRel : Hid (LtR12 w b lb v l V S T p gb cap m f mk ts L v' (.int .u64 ((suf.headD 0 : Nat) : Int)) (.int .i64 ((pre.length : Int) + 1)) w5) := Lib.hid ⟨pre ++ [x], suf, by rw [HPS.out]; simp, rfl, by simp, HLI5.out, HB4.out, ⟨⟨HY5.out.x.e, HY5.out.x.m.more (by simp; omega), HY5.out.x.o⟩, HY5.out.l⟩⟩
        clear HY4 HY5 HLI4 HLI5 HB4 A5 O5 c0 c1 c2 c3 c4 c5 c6 c7 c8 c9 blt d0 d1 dlt HNA
        generalize suf.headD 0 = h1 at hRel ⊢
        go_wp2_with fail
        go_roundw
        case rel => exact hRel.out
        case measure => simp [intOf]; omega
    · as_aux_lemma =>
      have e : suf = [] := List.eq_nil_of_length_eq_zero (by omega)
      subst e
      go_wp2_with fail
      go_ret
      have e : pre = L := by rw [HPS.out]; simp
      subst e
      exact ⟨_, rfl, HLI.out, HBK.out, HY.out.x.m, HY.out.x.o⟩
end
end Go.Proofs.Ytllfmhpkenohmaa
