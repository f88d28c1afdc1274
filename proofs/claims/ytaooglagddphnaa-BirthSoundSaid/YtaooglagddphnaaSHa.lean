/- Ha: what BiPSound leans on. Printed by wip/tools/slim13.py. -/
import Derived.Test.YtaooglagddphnaaSGh
import Derived.Test.YtaooglagddphnaaSGp

namespace Go.Proofs.Ytaooglagddphnaa
open Go.RowKit

set_option maxRecDepth 100000

section
variable {V L L' u v a b w i : Nat} {bs bs' : List E1} {E F : List (Nat × Nat × Nat)} {x y e : E1} {P : E1 → Prop}
theorem Way.step {P : Nat → Prop} (h : Way E a b) (h0 : P a) (hs : ∀ c d s, Way E a c → P c → (s, c, d) ∈ E ∨ (s, d, c) ∈ E → P d) : P b := by
  induction h with
  | refl => exact h0
  | fore h1 he ih => exact hs _ _ _ h1 (ih h0 hs) (.inl he)
  | back h1 he ih => exact hs _ _ _ h1 (ih h0 hs) (.inr he)
open Classical in
/-- How many vertices are joined with one. -/
noncomputable def cnW (V : Nat) (E : List (Nat × Nat × Nat)) (u : Nat) : Nat := ((List.range V).filter fun v => decide (Way E u v)).length
open Classical in
theorem len_filter_imp {l : List Nat} {p q : Nat → Bool} (h : ∀ x ∈ l, p x = true → q x = true) : (l.filter p).length ≤ (l.filter q).length := by
  induction l with
  | nil => exact Nat.le_refl _
  | cons x l ih =>
    have ih := ih fun y hy => h y (List.mem_cons_of_mem _ hy)
    have hx := h x (by simp)
    rw [List.filter_cons, List.filter_cons]
    cases hp : p x with
    | true => rw [hx hp]; simp only [if_true, List.length_cons]; omega
    | false => cases q x <;> simp <;> omega
theorem len_filter_one {n z : Nat} (hz : z < n) : ((List.range n).filter fun y => decide (y = z)).length = 1 := by
  induction n with
  | zero => omega
  | succ n ih =>
    rw [List.range_succ, List.filter_append, List.length_append]
    by_cases h : z = n
    · subst h
      have : (List.range z).filter (fun y => decide (y = z)) = [] := List.filter_eq_nil_iff.2 fun y hy => by have := List.mem_range.1 hy; simp; omega
      rw [this]; simp
    · rw [ih (by omega)]
      have : ¬ n = z := fun e => h e.symm
      simp [this]
theorem tE_down (h : L ≤ L') : ∀ e ∈ tE bs L', e ∈ tE bs L := fun ⟨s, a, b⟩ he => by
  rw [mem_tE] at he ⊢
  obtain ⟨e, h1, h2, h3, h4⟩ := he
  exact ⟨e, h1, h2, Nat.le_trans h h3, h4⟩
theorem Way.down (hw : Way (tE bs L') a b) (h : L ≤ L') : Way (tE bs L) a b := hw.mono (tE_down h)
/-- What holds of edges that come and go: what lies beside is joined at its level, and rows are small enough. -/
structure Hs (V : Nat) (bs : List E1) : Prop where
  sp : ∀ x ∈ bs, x.t = false → Way (tE bs x.l) x.u x.v
  sz : ∀ L w : Nat, w < V → 2 ^ L ≤ V → cnW V (tE bs L) w * 2 ^ L ≤ V
theorem way_nil (h : Way [] a b) : a = b := h.step (P := fun b => a = b) rfl fun c d s _ _ he => by rcases he with h3 | h3 <;> cases h3
/-- No edges. -/
theorem Hs.nil : Hs V [] := by
  refine ⟨fun _ h => (by cases h), fun L w hw hp => ?_⟩
  have h2 : cnW V (tE [] L) w ≤ 1 := by
    classical
    refine Nat.le_trans (len_filter_imp (q := fun y => decide (y = w)) fun x _ hx => ?_) (Nat.le_of_eq (len_filter_one hw))
    exact decide_eq_true (way_nil (of_decide_eq_true hx)).symm
  exact Nat.le_trans (Nat.mul_le_mul_right _ h2) (by omega)
end
theorem lv_pow {V : Int} {L : Nat} (h0 : 1 ≤ V) (h : (L : Int) < lv V) : 2 ^ L ≤ V.toNat := by
  have h4 : L ≤ 4 := by have := (lv_bd V).2; omega
  have h5 : L = 0 ∨ L = 1 ∨ L = 2 ∨ L = 3 ∨ L = 4 := by omega
  unfold lv at h
  rcases h5 with rfl | rfl | rfl | rfl | rfl <;> simp only [Nat.reducePow] <;> split at h <;> (try split at h) <;> (try split at h) <;> (try split at h) <;> omega

end Go.Proofs.Ytaooglagddphnaa

namespace Go.Proofs.Ytaooglagddphnaa
open Go.RowKit

set_option maxRecDepth 100000

/-- How many vertices a row of a level may have. -/
def mz (V : Int) (L : Nat) : Int := ((V.toNat / 2 ^ L : Nat) : Int)
section
variable {w : World} {b : BkV} {cv : Nat → Int} {g : Mg9} {mk : Nat → Nat} {ts : List Tp} {bs es : List E1} {q : Nat → Nat → List Nat} {L : Nat} {V : Int}
theorem mz_zero (h : 0 ≤ V) : mz V 0 = V := by unfold mz; rw [Nat.pow_zero, Nat.div_one]; omega
theorem mz_half : Int.tdiv (mz V L) 2 = mz V (L + 1) := by
  unfold mz
  rw [Nat.pow_succ, ← Nat.div_div_eq_div_mul]
  generalize V.toNat / 2 ^ L = n
  rw [Int.tdiv_eq_ediv_of_nonneg (Int.natCast_nonneg _)]
  omega
theorem mz_bd (h : V ≤ 16) (h0 : 0 ≤ V) : 0 ≤ mz V L ∧ mz V L ≤ 16 := by
  have := Nat.div_le_self V.toNat (2 ^ L)
  unfold mz
  generalize V.toNat / 2 ^ L = n at this ⊢
  omega
theorem Sd13.lg (h : Sd13 b cv g mk ts bs q) : LG b.V b.S b.T cv mk ts bs q := ⟨h.er, h.lf⟩
theorem Sd13.small (h : Sd13 b cv g mk ts bs q) (hR : Rt b.V b.S b.T) (hs : Hs b.V.toNat bs) (hL : (L : Int) < lv b.V) : ∀ t ∈ ts, Lvl13 b.V b.S L t.row → ((cntV (vxN b.V) t.row : Nat) : Int) ≤ mz b.V L := by
  intro t ht hl
  have hF : FJ b.V b.S mk ts := ⟨g, h.bt.fi⟩
  by_cases hu : ∃ u : Nat, (u : Int) < b.V ∧ Xn b.V L u ∈ t.row
  · obtain ⟨u, hu, hx⟩ := hu
    obtain ⟨gr, hV, hg⟩ := h.lf.fo
    obtain ⟨rows, hr⟩ := hV L hL
    obtain ⟨r, hr1, hx1⟩ := hr.cov u hu
    obtain ⟨z, hz, ez⟩ := hr.has r hr1
    have e := hF.uniq hz ht (by rw [ez]; exact hx1) hx
    subst e
    have h1 : cntV (vxN b.V) z.row = cnW b.V.toNat (tE bs L) u := by
      rw [ez, hr.count hR hL h.bt.fi hr1]
      unfold cnW
      congr 1
      refine List.filter_congr fun v _ => decide_eq_decide.2 ?_
      rw [← ez]
      exact (h.lg.way hR hF hL ht hx hu v).symm
    have h2 := hs.sz L u (by omega) (lv_pow hR.v1 hL)
    rw [← h1] at h2
    unfold mz
    exact Int.ofNat_le.2 ((Nat.le_div_iff_mul_le (Nat.pow_pos (by omega))).2 h2)
  · have h1 : cntV (vxN b.V) t.row = 0 := by
      unfold cntV
      rw [List.length_eq_zero_iff, List.filter_eq_nil_iff]
      intro y hy hv
      refine hu ?_
      rcases hl y hy with ⟨u, hu1, rfl⟩ | ⟨s, d, hs1, hd1, rfl⟩
      · exact ⟨u, hu1, hy⟩
      · rw [vxN_A hR hL hs1 hd1] at hv; cases hv
    rw [h1]
    exact Int.natCast_nonneg _
def KV14 (w1 : World) (n : Nat) (V : Int) (mo i : Value) (W : World) : Prop := ∃ (L : Nat) (z : Int), L ≤ n ∧ i = .int .i64 ((L : Nat) : Int) ∧ mo = .int .i64 z ∧ z = mz V L ∧ Below w1.heap.size w1 W
def KW14 (w1 : World) (V : Int) (r : List Nat) (c i : Value) (W : World) : Prop := ∃ (k z : Nat), k ≤ r.length ∧ cntV (vxN V) (r.take k) = z ∧ i = .int .i64 ((k : Nat) : Int) ∧ c = .int .i64 ((z : Nat) : Int) ∧ Below w1.heap.size w1 W
theorem take_cnt {r : List Nat} {k x : Nat} {vx : Nat → Bool} (h : r[k]? = some x) : cntV vx (r.take (k + 1)) = cntV vx (r.take k) + if vx x then 1 else 0 := by
  rw [List.take_add_one, h]
  show cntV vx (r.take k ++ [x]) = _
  rw [cntV_app, cntV_cons]
  show _ + (_ + 0) = _
  omega
set_option maxHeartbeats 16000000 in
theorem sound14 (B : Bk w b cv) (h : Sd13 b cv g mk ts bs q) (hs : Hs b.V.toNat bs) :
    Calls Try.prog 33 #[vB b, .bool true] w fun e w' => e = .returned (.bool true) ∧ Below w.heap.size w w' := by
  have HR := Lib.hid B.hR
  have HSD := Lib.hid h
  obtain ⟨es, hes⟩ : ∃ es, edAll bs b.V.toNat b.V.toNat = es := ⟨_, rfl⟩
  have HES := Lib.hid (h.edges B.hR hes)
  have HROW : Hid (∀ L : Nat, (L : Int) < lv b.V → ∀ t ∈ TLv b.V L ts b.na, Lvl13 b.V b.S L t.row ∧ Ar13 b.V b.S L (es.foldl (grE13 L) (List.replicate b.S.toNat none)) t.row) := Lib.hid fun L hL => h.row B HES.out hL
  have HBT := Lib.hid (h.marked B HES.out)
  have HSML : Hid (∀ L : Nat, (L : Int) < lv b.V → ∀ t ∈ TLv b.V L ts b.na, ((cntV (vxN b.V) t.row : Nat) : Int) ≤ mz b.V L) := Lib.hid fun L hL t ht => by
    have h1 := h.row B HES.out hL t ht
    have h2 := (TLv_mem h.bt.fi).1 ht
    exact h.small B.hR hs hL t h2.1 h1.1
  have HSPA : Hid (∀ e ∈ es, e.t = false → ∀ L, L ≤ e.l → Way (tE es L) e.u e.v) := Lib.hid fun e he ht L hL => by
    have h1 := (hs.sp e ((HES.out.mem e).1 he) ht).down hL
    refine h1.mono fun ⟨s, p, q⟩ hm => ?_
    rw [mem_tE] at hm ⊢
    obtain ⟨y, hy, h2⟩ := hm
    exact ⟨y, (HES.out.mem y).2 hy, h2⟩
  have HLNK : Hid (∀ L, Lnk (es.foldl (grE13 L) (List.replicate b.S.toNat none)) (tE es L)) := Lib.hid fun L => foldG_lnk (HES.out.un.imp fun h => h.1) fun e hm => by have := HES.out.en e hm; omega
  have HTEV : Hid (∀ L s p q, (s, p, q) ∈ tE es L → p < b.V.toNat ∧ q < b.V.toNat) := Lib.hid fun L s p q he => by
    rw [mem_tE] at he
    obtain ⟨y, hy, _, _, _, rfl, rfl⟩ := he
    have := HES.out.en y hy
    omega
  obtain ⟨nS, hnS⟩ : ∃ k : Nat, b.S = (k : Int) := ⟨b.S.toNat, by have := B.hR.s1; omega⟩
  obtain ⟨nl, hnl⟩ : ∃ k : Nat, lv b.V = (k : Int) := ⟨(lv b.V).toNat, by have := lv_bd b.V; omega⟩
  obtain ⟨ln, hln⟩ : ∃ k, es.length = k := ⟨_, rfl⟩
  have HNS := Lib.hid hnS
  have HNL := Lib.hid hnl
  have HLN := Lib.hid hln
  have nS48 : nS ≤ 48 := by have := B.hR.s2; omega
  have nl5 : nl ≤ 5 := by have := lv_bd b.V; omega
  have ln48 : ln ≤ 48 := by have := HES.out.ln; omega
  have v16 : b.V ≤ 16 := B.hR.v2
  have v1 : 1 ≤ b.V := B.hR.v1
  have na560 : b.na ≤ 560 := by rw [B.ha]; have := (sizes B.hR).nd2; omega
  have HNA : Hid ((b.na : Int) = nd b.V b.S) := Lib.hid (by have := B.ha; have := nN_int B.hR; have h2 : nN b.V b.S = (nd b.V b.S).toNat := rfl; omega)
  have hua : Below w.heap.size w (w.alloc (bB b)) := (Below.refl _ _).alloc (Nat.le_refl _) _
  have HW := Lib.hid hua
  have HBk := Lib.hid (B.below hua)
  have HX := Lib.hid (BB.new w b)
  have hed := edges_any (B.below hua) h.er
  rw [hes] at hed
  have HED := Lib.hid hed
  have HTL : Hid (∀ L, ∀ t ∈ TLv b.V L ts b.na, t.row.length ≤ b.na) := Lib.hid fun L t ht => h.bt.row_len B ((TLv_mem h.bt.fi).1 ht).1
  have hmk := run_make_row' (P := Try.prog) 60 3 (.int .i64 0) 8 Try.underlying60 info_i rfl .i64 .i64 nS (by omega) (by omega)
  have HMK := Lib.hid hmk
  obtain ⟨c0, c1, c2, c3, c4, c5, c6⟩ := (BB.new w b).cells
  have xlt := (BB.new w b).lt
  clear B h hua hes hnS hnl hln hed hmk
  go_enter Try.func33, Try.ntmps33
  go_wp2_with fail
  refine HED.out.mono ?_; rintro e w2 ⟨v2, rfl, hEW, b2⟩
  obtain ⟨la, ln2, lc, rfl, hEW⟩ := ew_parts hEW
  have hl9 : es.length = ln2 := by
    obtain ⟨a, c, e⟩ := hEW.slice
    injection e with _ e _
    exact e.symm
  obtain rfl : ln = ln2 := HLN.out.symm.trans hl9
  have HX2 := Lib.hid (HX.out.below b2)
  have HBk2 := Lib.hid (HBk.out.below b2)
  have HEW2 := Lib.hid hEW
  have HW2 := Lib.hid (HW.out.trans (b2.mono HW.out.size))
  clear c0 c1 c2 c3 c4 c5 c6 xlt HX HBk HW HED b2 hEW hl9
  obtain ⟨c0, c1, c2, c3, c4, c5, c6⟩ := HX2.out.cells
  have xlt := HX2.out.lt
  go_wp2_with fail
  refine (lists_ref HBk2.out HEW2.out (by have := HES.out.ln; omega) HSD.out.lf.lq HES.out.lk HES.out.un (fun e he => by have := HES.out.en e he; omega) HES.out.ql).mono ?_; rintro e w3 ⟨rfl, b3⟩
  have HX3 := Lib.hid (HX2.out.below b3)
  have HBk3 := Lib.hid (HBk2.out.below b3)
  have HEW3 := Lib.hid (HEW2.out.below b3)
  have HW3 := Lib.hid (HW2.out.trans (b3.mono HW2.out.size))
  clear c0 c1 c2 c3 c4 c5 c6 xlt HX2 HBk2 HEW2 HW2 b3
  obtain ⟨c0, c1, c2, c3, c4, c5, c6⟩ := HX3.out.cells
  have xlt := HX3.out.lt
  rw [HNS.out] at c1
  have hmk := HMK.out
  go_wp2_with fail
  clear c0 c1 c2 c3 c4 c5 c6 xlt hmk HMK
  have HRELA : Hid (KU13 w3 w3.heap.size nS es (.int .i64 0) (w3.alloc (.cells (madeCells #[Value.int .i64 0] nS) 3))) := Lib.hid ⟨0, Nat.zero_le _, rfl, by rw [show (fun s => ((es.take 0).map E1.s).count s) = (fun _ => 0) from by funext s; simp]; exact Cn13.made w3 nS, (Below.refl _ _).alloc (Nat.le_refl _) _⟩
  generalize w3.alloc (.cells (madeCells #[Value.int .i64 0] nS) 3) = w4 at HRELA ⊢
  generalize hub : w3.heap.size = ub at HRELA ⊢
  have HUB := Lib.hid hub
  clear hub
  go_loopw [8] (fun i wr => KU13 w3 ub nS es i wr) (fun i _ => ln - (intOf i).toNat)
  case atStart => exact HRELA.out
  case round =>
    clear HRELA
    obtain ⟨k, hk, rfl, hcn, hb⟩ := hrel
    have HCN := Lib.hid hcn
    have HB := Lib.hid hb
    have HEWk := Lib.hid (HEW3.out.below hb)
    rw [HLN.out] at hk
    clear hcn hb
    by_cases hkn : k < ln
    · as_aux_lemma =>
      obtain ⟨x, hx⟩ : ∃ x, es[k]? = some x := ⟨_, List.getElem?_eq_getElem (by have := HLN.out; omega)⟩
      obtain ⟨gb, cap, e1, _, glt, gfr, g0, g1, g2, g3, g4⟩ := HEWk.out.at hx
      injection e1 with e1 e2 e3
      subst e1
      have xs := HES.out.en x (List.mem_of_getElem? hx)
      have xsn : x.s < nS := by have := HNS.out; omega
      have xsI : (x.s : Int) < (nS : Int) := by omega
      have xs0 : (0 : Int) ≤ (x.s : Int) := by omega
      have kI : (k : Int) < (ln : Int) := by omega
      have k0 : (0 : Int) ≤ (k : Int) := by omega
      have hce := HCN.out.cell (k := x.s) xsn
      have hfz := HCN.out.frozen x.s
      have slt := HCN.out.lt
      obtain ⟨cc, hcc⟩ : ∃ c, ((es.take k).map E1.s).count x.s = c := ⟨_, rfl⟩
      have hc9 : cc ≤ 48 := by
        have h1 := List.count_le_length (a := x.s) (l := (es.take k).map E1.s)
        rw [List.length_map, List.length_take] at h1
        omega
      rw [hcc] at hce
      have cI : (cc : Int) ≤ 48 := by omega
      have c0' : (0 : Int) ≤ (cc : Int) := by omega
      have HCN2 : Hid (Cn13 (wr.setCell ⟨ub, x.s, none⟩ (.int .i64 ((cc : Int) + 1))) ub nS (fun s => ((es.take (k + 1)).map E1.s).count s)) := Lib.hid (HCN.out.set_ (k := x.s) xsn (by (try dsimp only); rw [used_next hx, hcc, if_pos rfl]; omega) (fun i hi => by (try dsimp only); rw [used_next hx, if_neg hi, Nat.add_zero]))
      have HB2 := Lib.hid (HB.out.setCell (p := ⟨ub, x.s, none⟩) (by rw [HUB.out]; exact Nat.le_refl _) (.int .i64 ((cc : Int) + 1)))
      have HK1 : Hid (k + 1 ≤ es.length) := Lib.hid (by have := HLN.out; omega)
      clear hcc hc9 xs hx HCN HB HEWk e2 e3 g1 g2 g3 g4
      go_wp2_with fail
      go_roundw
      case rel => exact ⟨k + 1, HK1.out, by simp, HCN2.out, HB2.out⟩
      case measure => simp [intOf]; omega
    · as_aux_lemma =>
      have ek : ln = k := by omega
      subst ek
      have kN : ¬ (ln : Int) < (ln : Int) := by omega
      have htk : es.take ln = es := by rw [← HLN.out, List.take_length]
      rw [htk] at HCN
      have HXk := Lib.hid (HX3.out.below HB.out)
      have HBkk := Lib.hid (HBk3.out.below HB.out)
      have HWk := Lib.hid (HW3.out.trans (HB.out.mono HW3.out.size))
      clear htk HX3 HBk3 HEW3 HW3 HB hk hkn
      go_wp2_with fail
      obtain ⟨wA, rfl⟩ : ∃ w9 : World, w9 = wr := ⟨_, rfl⟩
      have HRELB : Hid (KT13 wA nS (.int .i64 0) wA) := Lib.hid ⟨0, Nat.zero_le _, rfl, Below.refl _ _⟩
      go_loopw [9] (fun i wr => KT13 wA nS i wr) (fun i _ => nS - (intOf i).toNat)
      case atStart => exact HRELB.out
      case round =>
        clear HRELB
        obtain ⟨j, hj, rfl, hb⟩ := hrel
        have HB := Lib.hid hb
        clear hb
        by_cases hjn : j < nS
        · as_aux_lemma =>
          have HCNj := Lib.hid (HCN.out.below HB.out)
          have jI : (j : Int) < (nS : Int) := by omega
          have j0 : (0 : Int) ≤ (j : Int) := by omega
          have hce := HCNj.out.cell (k := j) hjn
          have slt := HCNj.out.lt
          have hc9 := used_one HES.out.un j
          obtain ⟨cc, hcc⟩ : ∃ c, (es.map E1.s).count j = c := ⟨_, rfl⟩
          rw [hcc] at hce hc9
          have cI : (cc : Int) ≤ 1 := by omega
          have cN : ¬ (1 : Int) < (cc : Int) := by omega
          have HN5 : Hid (KT13 wA nS (.int .i64 ((j : Int) + 1)) wr) := Lib.hid ⟨j + 1, by omega, by simp, HB.out⟩
          clear hcc HB HCNj hc9
          go_wp2_with fail
          go_roundw
          case rel => exact HN5.out
          case measure => simp [intOf]; omega
        · as_aux_lemma =>
          have ej : nS = j := by omega
          subst ej
          have jN : ¬ (nS : Int) < (nS : Int) := by omega
          have HXj := Lib.hid (HXk.out.below HB.out)
          have HBkj := Lib.hid (HBkk.out.below HB.out)
          have HEWj := Lib.hid (HEWk.out.below HB.out)
          have HWj := Lib.hid (HWk.out.trans (HB.out.mono HWk.out.size))
          clear HXk HBkk HEWk HWk HB HCN hj hjn
          obtain ⟨c0, c1, c2, c3, c4, c5, c6⟩ := HXj.out.cells
          have xlt := HXj.out.lt
          go_wp2_with fail
          refine (marks_ref HBkj.out HEWj.out (by have := HES.out.ln; omega) HES.out.en).mono ?_; rintro e w5 ⟨mb, rfl, hM, hmb, b5⟩
          have HM5 := Lib.hid hM
          have HX5 := Lib.hid (HXj.out.below b5)
          have HBk5 := Lib.hid (HBkj.out.below b5)
          have HEW5 := Lib.hid (HEWj.out.below b5)
          have HW5 := Lib.hid (HWj.out.trans (b5.mono HWj.out.size))
          clear c0 c1 c2 c3 c4 c5 c6 xlt HXj HBkj HEWj HWj b5 hM hmb
          obtain ⟨c0, c1, c2, c3, c4, c5, c6⟩ := HX5.out.cells
          have xlt := HX5.out.lt
          go_wp2_with fail
          clear c0 c1 c2 c3 c4 c5 c6 xlt
          have HRELC : Hid (KV14 w5 nl b.V (.int .i64 b.V) (.int .i64 0) w5) := Lib.hid ⟨0, b.V, Nat.zero_le _, rfl, rfl, (mz_zero (by omega)).symm, Below.refl _ _⟩
          go_loopw [11, 12] (fun mo i wr => KV14 w5 nl b.V mo i wr) (fun _ i _ => nl - (intOf i).toNat)
          case atStart => exact HRELC.out
          case round =>
            clear HRELC
            obtain ⟨L, z, hL, rfl, rfl, hz, hb⟩ := hrel
            have hz0 : 0 ≤ z := by rw [hz]; exact (mz_bd v16 (by omega)).1
            have hz1 : z ≤ 16 := by rw [hz]; exact (mz_bd v16 (by omega)).2
            have HZM := Lib.hid hz
            clear hz
            have HB := Lib.hid hb
            have HXl := Lib.hid (HX5.out.below hb)
            have HBkl := Lib.hid (HBk5.out.below hb)
            have HEWl := Lib.hid (HEW5.out.below hb)
            have HMl := Lib.hid (HM5.out.below hb)
            have HWl := Lib.hid (HW5.out.trans (hb.mono HW5.out.size))
            clear hb
            obtain ⟨c0, c1, c2, c3, c4, c5, c6⟩ := HXl.out.cells
            have xlt := HXl.out.lt
            go_wp2_with fail
            refine (rlevels_yes _ _ _ HR.out _).mono ?_; rintro e w6 ⟨rfl, b6⟩; rw [HNL.out]
            have HX6 := Lib.hid (HXl.out.below b6)
            have HBk6 := Lib.hid (HBkl.out.below b6)
            have HEW6 := Lib.hid (HEWl.out.below b6)
            have HM6 := Lib.hid (HMl.out.below b6)
            have HW6 := Lib.hid (HWl.out.trans (b6.mono HWl.out.size))
            have HB6 := Lib.hid (HB.out.trans (b6.mono HB.out.size))
            clear c0 c1 c2 c3 c4 c5 c6 xlt HXl HBkl HEWl HMl HWl HB b6
            by_cases hLn : L < nl
            · as_aux_lemma =>
              have LI0 : (L : Int) < (nl : Int) := by omega
              have L0 : (0 : Int) ≤ (L : Int) := by omega
              have HLV : Hid ((L : Int) < lv b.V) := Lib.hid (by rw [HNL.out]; exact LI0)
              have HZ := Lib.hid (And.intro hz0 hz1)
              have HLn : Hid (L + 1 ≤ nl) := Lib.hid hLn
              clear hz0 hz1 hL hLn
              obtain ⟨c0, c1, c2, c3, c4, c5, c6⟩ := HX6.out.cells
              have xlt := HX6.out.lt
              go_wp2_with fail
              refine (forest_ref HBk6.out HSD.out.bt HLV.out).mono ?_; rintro e w7 ⟨rv, vs, rfl, hRV, hlen, hLI, hfr, b7⟩
              obtain ⟨ra, rc, hre⟩ := hRV.slice
              obtain ⟨rn, hrn⟩ : ∃ n, vs.length = n := ⟨_, rfl⟩
              rw [hrn] at hre
              subst hre
              have HRN := Lib.hid hrn
              have HX7 := Lib.hid (HX6.out.below b7)
              have HBk7 := Lib.hid (HBk6.out.below b7)
              have HEW7 := Lib.hid (HEW6.out.below b7)
              have HM7 := Lib.hid (HM6.out.below b7)
              have HB7 := Lib.hid (HB6.out.trans (b7.mono HB6.out.size))
              have HRV7 := Lib.hid hRV
              have HLEN := Lib.hid hlen
              have HLI7 := Lib.hid hLI
              have HMB : Hid (∀ v ∈ vs, bk v ≠ some mb) := Lib.hid fun v hv e => by
                have h1 := hfr v hv mb e
                have h2 := HM6.out.lt
                omega
              have rn600 : rn ≤ 600 := by
                have h1 : (TLv b.V L ts b.na).length ≤ (List.range' 1 b.na).length := List.length_filterMap_le _ _
                rw [List.length_range'] at h1
                omega
              clear c0 c1 c2 c3 c4 c5 c6 xlt HX6 HBk6 HEW6 HM6 HB6 HW6 b7 hRV hlen hLI hfr hrn
              obtain ⟨c0, c1, c2, c3, c4, c5, c6⟩ := HX7.out.cells
              have xlt := HX7.out.lt
              go_wp2_with fail
              refine (cells_ref HBk7.out HBT.out HLV.out HRV7.out HLEN.out HLI7.out HM7.out HMB.out).mono ?_; rintro e w8 ⟨rfl, b8⟩
              have HX8 := Lib.hid (HX7.out.below b8)
              have HBk8 := Lib.hid (HBk7.out.below b8)
              have HEW8 := Lib.hid (HEW7.out.below b8)
              have HB8 := Lib.hid (HB7.out.trans (b8.mono HB7.out.size))
              have HRV8 := Lib.hid (HRV7.out.below b8)
              have HLI8 : Hid (∀ (i : Nat) (v : Value) (t : Tp), vs[i]? = some v → (TLv b.V L ts b.na)[i]? = some t → LI w8 v t.row) := Lib.hid fun i v t h1 h2 => (HLI7.out i v t h1 h2).below b8
              clear c0 c1 c2 c3 c4 c5 c6 xlt HX7 HBk7 HEW7 HM7 HB7 HRV7 HLI7 HMB b8
              obtain ⟨c0, c1, c2, c3, c4, c5, c6⟩ := HX8.out.cells
              have xlt := HX8.out.lt
              go_wp2_with fail
              refine (graph_ref HBk8.out HEW8.out (by have := HES.out.ln; omega) HLV.out HES.out.en).mono ?_; rintro e w9 ⟨gb, rfl, hG, hgb, b9⟩
              have HX9 := Lib.hid (HX8.out.below b9)
              have HEW9 := Lib.hid (HEW8.out.below b9)
              have HBk9 := Lib.hid (HBk8.out.below b9)
              have HB9 := Lib.hid (HB8.out.trans (b9.mono HB8.out.size))
              have HRV9 := Lib.hid (HRV8.out.below b9)
              have HG9 := Lib.hid hG
              have HGN : Hid ((es.foldl (grE13 L) (List.replicate b.S.toNat none)).length = b.S.toNat) := Lib.hid (by rw [grs13_len, List.length_replicate])
              have HSN : Hid (b.S.toNat ≤ 1000) := Lib.hid (by have := HNS.out; omega)
              have HLI9 : Hid (∀ (i : Nat) (v : Value) (t : Tp), vs[i]? = some v → (TLv b.V L ts b.na)[i]? = some t → LI w9 v t.row) := Lib.hid fun i v t h1 h2 => (HLI8.out i v t h1 h2).below b9
              clear c0 c1 c2 c3 c4 c5 c6 xlt HX8 HBk8 HEW8 HB8 HRV8 HLI8 b9 hG hgb
              go_wp2_with fail
              have HRELD : Hid (KT13 w9 rn (.int .i64 0) w9) := Lib.hid ⟨0, Nat.zero_le _, rfl, Below.refl _ _⟩
              go_loopw [16] (fun i wr => KT13 w9 rn i wr) (fun i _ => rn - (intOf i).toNat)
              case atStart => exact HRELD.out
              case round =>
                clear HRELD
                obtain ⟨i, hi, rfl, hb⟩ := hrel
                have HB := Lib.hid hb
                clear hb
                by_cases hin : i < rn
                · as_aux_lemma =>
                  have HXi := Lib.hid (HX9.out.below HB.out)
                  have HBki := Lib.hid (HBk9.out.below HB.out)
                  have HRVi := Lib.hid (HRV9.out.below HB.out)
                  have HGi := Lib.hid (HG9.out.below HB.out)
                  obtain ⟨v, hv⟩ : ∃ v, vs[i]? = some v := ⟨_, List.getElem?_eq_getElem (by have := HRN.out; omega)⟩
                  obtain ⟨t, ht⟩ : ∃ t, (TLv b.V L ts b.na)[i]? = some t := ⟨_, List.getElem?_eq_getElem (by have := HRN.out; have := HLEN.out; omega)⟩
                  have hli := (HLI9.out i v t hv ht).below HB.out
                  obtain ⟨rg, cc9, e1, _, rlt, cs, hcs, hcc⟩ := HRVi.out.at hv
                  injection e1 with e1 e2 e3
                  subst e1
                  have hcell : wr.cell? ⟨rg, i, none⟩ = some v := (hcs.cell i).trans (hcc i v hv)
                  have HT9 := Lib.hid (List.mem_of_getElem? ht)
                  have HLX := Lib.hid (HROW.out L HLV.out t HT9.out)
                  have hrl9 := HTL.out L t HT9.out
                  obtain ⟨rl, hrl⟩ : ∃ n, t.row.length = n := ⟨_, rfl⟩
                  rw [hrl] at hrl9
                  have HRL := Lib.hid hrl
                  have HL1 : Hid (t.row.length ≤ 1000) := Lib.hid (by omega)
                  obtain ⟨va, vc, rfl, hli⟩ := li_parts13 hli hrl
                  have HLI0 := Lib.hid hli
                  have iI : (i : Int) < (rn : Int) := by omega
                  have i0 : (0 : Int) ≤ (i : Int) := by omega
                  have rlI : (rl : Int) ≤ 560 := by omega
                  have HIN : Hid (i + 1 ≤ rn) := Lib.hid hin
                  clear hv ht e2 e3 hcs hcc hrl hli hi hin
                  obtain ⟨c0, c1, c2, c3, c4, c5, c6⟩ := HXi.out.cells
                  have xlt := HXi.out.lt
                  go_wp2_with fail
                  clear c0 c1 c2 c3 c4 c5 c6 xlt
                  have hd : Below wr.heap.size wr wr.drew := (Below.refl _ _).drew
                  have HXd := Lib.hid (HXi.out.below hd)
                  have HBkd := Lib.hid (HBki.out.below hd)
                  have HGd := Lib.hid (HGi.out.below hd)
                  have HLId := Lib.hid (HLI0.out.below hd)
                  have HBd := Lib.hid (HB.out.trans (hd.mono HB.out.size))
                  have hcd := cell_later hd hcell
                  have HCd := Lib.hid hcd
                  have HQd := Lib.hid (And.intro HXd.out hcd)
                  have rltd : rg < wr.drew.heap.size := Nat.lt_of_lt_of_le rlt hd.size
                  clear hd HXi HBki HRVi HGi HLI0 HB hcell rlt hcd
                  have hrule : ∀ W : World, (BB W w.heap.size b ∧ W.cell? ⟨rg, i, none⟩ = some (.slice va rl vc)) → _ := fun W h => And.intro (BB.rule w.heap.size b W h.1) (show W.cell? ⟨rg, i, none⟩ = some (.slice va rl vc) from h.2)
                  obtain ⟨⟨c0, c1, c2, c3, c4, c5, c6⟩, r0⟩ := hrule _ HQd.out
                  have xlt := HXd.out.lt
                  go_region_held3 (fun W => BB W w.heap.size b ∧ W.cell? ⟨rg, i, none⟩ = some (.slice va rl vc)) (first | (with_reducible assumption) | (with_reducible exact HQ6.out) | (with_reducible exact HQd.out))
                    (first
                      | (go_at_call 78; ((with_reducible refine (around_ref HBkd.out HLId.out HL1.out HGd.out HGN.out HSN.out HLV.out HLX.out.1 HLX.out.2).mono ?_); rintro e w10 ⟨rfl, b10⟩; have HQ6 := Lib.hid (And.intro (HXd.out.below b10) (cell_later b10 HCd.out)); have HB10 := Lib.hid (HBd.out.trans (b10.mono HBd.out.size)); have HBk10 := Lib.hid (HBkd.out.below b10); have HLI10 := Lib.hid (HLId.out.below b10)))
                      | fail)
                  clear hrule c0 c1 c2 c3 c4 c5 c6 r0 xlt rltd HXd HBkd HGd HLId HBd HCd HQd b10
                  go_wp2_with fail
                  have HRELE : Hid (KW14 w10 b.V t.row (.int .i64 0) (.int .i64 0) w10) := Lib.hid ⟨0, 0, Nat.zero_le _, rfl, rfl, rfl, Below.refl _ _⟩
                  go_loopw [17, 18] (fun c i wr => KW14 w10 b.V t.row c i wr) (fun _ i _ => rl - (intOf i).toNat)
                  case atStart => exact HRELE.out
                  case round =>
                    clear HRELE
                    obtain ⟨k, z9, hk, hz9, rfl, rfl, hb⟩ := hrel
                    rw [HRL.out] at hk
                    have hz9k : z9 ≤ k := by
                      have h1 : cntV (vxN b.V) (t.row.take k) ≤ (t.row.take k).length := List.length_filter_le _ _
                      rw [List.length_take] at h1; omega
                    have HZ9 := Lib.hid hz9
                    clear hz9
                    have HBe := Lib.hid hb
                    have HXe := Lib.hid (HQ6.out.1.below hb)
                    have HBke := Lib.hid (HBk10.out.below hb)
                    have HLIe := Lib.hid (HLI10.out.below hb)
                    have r0 := cell_later hb HQ6.out.2
                    have rlt := World.block_lt_of_cell? _ _ r0
                    clear hb
                    by_cases hkr : k < rl
                    · as_aux_lemma =>
                      obtain ⟨x, hx⟩ : ∃ x, t.row[k]? = some x := ⟨_, List.getElem?_eq_getElem (by have := HRL.out; omega)⟩
                      obtain ⟨zz, m, rfl, hN, hzn, hkd⟩ := nodeOf13 HR.out HLV.out (HLX.out.1 x (List.mem_of_getElem? hx))
                      obtain ⟨b1, o1, rfl, p1⟩ := HLIe.out.at hx
                      have b1lt : b1 < wr.heap.size := World.block_lt_of_cell? _ _ p1
                      have zn : zz < b.na := by have := HNA.out; omega
                      obtain ⟨n0, n1, n2, n3⟩ := (HBke.out.name hN zn).cells
                      have galt := HBke.out.lt.2
                      obtain ⟨c0, c1, c2, c3, c4, c5, c6⟩ := HXe.out.cells
                      have xlt := HXe.out.lt
                      have kI : (k : Int) < (rl : Int) := by omega
                      have k0 : (0 : Int) ≤ (k : Int) := by omega
                      have z600 : (zz : Int) ≤ 600 := by omega
                      have zI : (zz : Int) < (b.na : Int) := by omega
                      have z0 : (0 : Int) ≤ (zz : Int) := by omega
                      have z9I : (z9 : Int) ≤ 560 := by omega
                      have z90 : (0 : Int) ≤ (z9 : Int) := by omega
                      have HK1 : Hid (k + 1 ≤ rl) := Lib.hid (by omega)
                      have HTK := Lib.hid (take_cnt (vx := vxN b.V) hx)
                      clear hN hx hk hz9k
                      rcases hkd with ⟨u, rfl, hq, ex⟩ | ⟨s, rfl, hq, ex⟩ | ⟨s, rfl, hq, ex⟩
                      all_goals
                        dsimp only at n0 n1 n2 n3
                      · have HN5 : Hid (KW14 w10 b.V t.row (.int .i64 ((z9 : Int) + 1)) (.int .i64 ((k : Int) + 1)) wr.drew) := Lib.hid ⟨k + 1, z9 + 1, by rw [HRL.out]; exact HK1.out, by rw [HTK.out, HZ9.out, ex, vxN_X HR.out HLV.out hq]; rfl, by simp, by simp, HBe.out.drew⟩
                        clear ex hq HTK HZ9
                        clear HBe HXe HBke HLIe
                        go_wp2_with fail
                        go_region
                        go_wp2_with fail
                        go_roundw
                        case rel => exact HN5.out
                        case measure => have := HK1.out; simp [intOf]; omega
                      · have HN5 : Hid (KW14 w10 b.V t.row (.int .i64 (z9 : Int)) (.int .i64 ((k : Int) + 1)) wr.drew) := Lib.hid ⟨k + 1, z9, by rw [HRL.out]; exact HK1.out, by rw [HTK.out, HZ9.out, ex, vxN_A HR.out HLV.out hq (by decide)]; rfl, by simp, rfl, HBe.out.drew⟩
                        clear ex hq HTK HZ9
                        clear HBe HXe HBke HLIe
                        go_wp2_with fail
                        go_region
                        go_wp2_with fail
                        go_roundw
                        case rel => exact HN5.out
                        case measure => have := HK1.out; simp [intOf]; omega
                      · have HN5 : Hid (KW14 w10 b.V t.row (.int .i64 (z9 : Int)) (.int .i64 ((k : Int) + 1)) wr.drew) := Lib.hid ⟨k + 1, z9, by rw [HRL.out]; exact HK1.out, by rw [HTK.out, HZ9.out, ex, vxN_A HR.out HLV.out hq (by decide)]; rfl, by simp, rfl, HBe.out.drew⟩
                        clear ex hq HTK HZ9
                        clear HBe HXe HBke HLIe
                        go_wp2_with fail
                        go_region
                        go_wp2_with fail
                        go_roundw
                        case rel => exact HN5.out
                        case measure => have := HK1.out; simp [intOf]; omega
                    · as_aux_lemma =>
                      have ek : rl = k := by omega
                      subst ek
                      have kN : ¬ (rl : Int) < (rl : Int) := by omega
                      have zN : ¬ z < (z9 : Int) := by
                        have h1 := HSML.out L HLV.out t HT9.out
                        have h2 := HZ9.out
                        rw [← HRL.out, List.take_length] at h2
                        rw [HZM.out]; omega
                      have z9b : (z9 : Int) ≤ 560 := by omega
                      have HN5 : Hid (KT13 w9 rn (.int .i64 ((i : Int) + 1)) wr) := Lib.hid ⟨i + 1, HIN.out, by simp, HB10.out.trans (HBe.out.mono HB10.out.size)⟩
                      clear HBe HXe HBke HLIe
                      go_wp2_with fail
                      go_roundw
                      case rel => exact HN5.out
                      case measure => have := HIN.out; simp [intOf]; omega
                · as_aux_lemma =>
                  have ei : rn = i := by omega
                  subst ei
                  have iN : ¬ (rn : Int) < (rn : Int) := by omega
                  have HBr := Lib.hid (HB9.out.trans (HB.out.mono HB9.out.size))
                  obtain ⟨z2, hz2⟩ : ∃ y, Int.tdiv z 2 = y := ⟨_, rfl⟩
                  have hz2m : z2 = mz b.V (L + 1) := by rw [← hz2, HZM.out]; exact mz_half
                  have hz29 : 0 ≤ z2 ∧ z2 ≤ 16 := by rw [hz2m]; exact mz_bd v16 (by omega)
                  have HZ2 := Lib.hid hz2m
                  have wz : IntKind.i64.wrap z2 = z2 := IntWalk.i64_in _ (by omega)
                  have HWr := Lib.hid (HW5.out.trans (HBr.out.mono HW5.out.size))
                  have HEWr := Lib.hid (HEW9.out.below HB.out)
                  have HGr := Lib.hid (HG9.out.below HB.out)
                  clear HB hz29 hz2m hi hin
                  go_wp2_with fail
                  obtain ⟨wC, rfl⟩ : ∃ w9 : World, w9 = wr := ⟨_, rfl⟩
                  have HRELF : Hid (KT13 wC ln (.int .i64 0) wC) := Lib.hid ⟨0, Nat.zero_le _, rfl, Below.refl _ _⟩
                  go_loopw [19] (fun i wr => KT13 wC ln i wr) (fun i _ => ln - (intOf i).toNat)
                  case atStart => exact HRELF.out
                  case round =>
                    clear HRELF
                    obtain ⟨y, hy, rfl, hb⟩ := hrel
                    have HBy := Lib.hid hb
                    clear hb
                    by_cases hyn : y < ln
                    · as_aux_lemma =>
                      have HEWy := Lib.hid (HEWr.out.below HBy.out)
                      have HGy := Lib.hid (HGr.out.below HBy.out)
                      obtain ⟨x, hx⟩ : ∃ x, es[y]? = some x := ⟨_, List.getElem?_eq_getElem (by have := HLN.out; omega)⟩
                      obtain ⟨gl, cap, e1, _, glt, gfr, g0, g1, g2, g3, g4⟩ := HEWy.out.at hx
                      injection e1 with e1 e2 e3
                      subst e1
                      have HXM := Lib.hid (List.mem_of_getElem? hx)
                      have xs := HES.out.en x HXM.out
                      have xlb : (x.l : Int) ≤ 5 := by have := lv_bd b.V; omega
                      have HXV : Hid (x.u < b.V.toNat) := Lib.hid (by omega)
                      have yI : (y : Int) < (ln : Int) := by omega
                      have y0 : (0 : Int) ≤ (y : Int) := by omega
                      have LI9 : (L : Int) ≤ 5 := by omega
                      have HY1 : Hid (y + 1 ≤ ln) := Lib.hid hyn
                      have HVN : Hid (b.V.toNat ≤ 1000) := Lib.hid (by omega)
                      clear xs hx e2 e3 hy hyn
                      have hd : Below wr.heap.size wr wr.drew := (Below.refl _ _).drew
                      have d1 : wr.drew.cell? _ = _ := g1
                      have d2 : wr.drew.cell? _ = _ := g2
                      have d3 : wr.drew.cell? _ = _ := g3
                      have d4 : wr.drew.cell? _ = _ := g4
                      have dlt : gl < wr.drew.heap.size := glt
                      have HBz := Lib.hid (HBy.out.trans (hd.mono HBy.out.size))
                      have HGz := Lib.hid (HGy.out.below hd)
                      clear hd
                      clear g0 g1 g2 g3 g4 glt gfr
                      cases ht : x.t with
                      | true =>
                        rw [ht] at d4
                        have HN5 : Hid (KT13 wC ln (.int .i64 ((y : Int) + 1)) wr.drew) := Lib.hid ⟨y + 1, HY1.out, by simp, HBz.out⟩
                        clear HBy HBz HGz HGy HEWy
                        go_wp2_with fail
                        refine wp_region_held_drew (S := (fun W => W.cell? ⟨gl, y * 5 + 1, none⟩ = some (.int .i64 (x.u : Int)) ∧ W.cell? ⟨gl, y * 5 + 2, none⟩ = some (.int .i64 (x.v : Int)) ∧ W.cell? ⟨gl, y * 5 + 3, none⟩ = some (.int .i64 (x.l : Int)) ∧ W.cell? ⟨gl, y * 5 + 4, none⟩ = some (.bool true))) (by kernel_rfl) ?_ (fun hHeld => ?_)
                        · exact ⟨d1, d2, d3, d4⟩
                        refine wpAnyH_take (i := 0) (v := ?_) rfl (by kernel_rfl) (by kernel_rfl) (by kernel_rfl) (fun _ _ _ h => h) (Or.inl ⟨by rfl, ?_⟩) (by assumption) ?_
                        rotate_left
                        · (intro w hSw; (try dsimp only at hSw); go_simp; try with_reducible rfl)
                        try simp only [Act.put, List.setIfInBounds_toArray, List.set_cons_zero, List.set_cons_succ, List.getElem_toArray, List.getElem_cons_zero]
                        refine wpAnyH_take (i := 1) (v := ?_) rfl (by kernel_rfl) (by kernel_rfl) (by kernel_rfl) (fun _ _ _ h => h) (Or.inl ⟨by rfl, ?_⟩) (by assumption) ?_
                        rotate_left
                        · (intro w hSw; (try dsimp only at hSw); go_simp; try with_reducible rfl)
                        try simp only [Act.put, List.setIfInBounds_toArray, List.set_cons_zero, List.set_cons_succ, List.getElem_toArray, List.getElem_cons_zero, List.getElem_cons_succ]
                        refine wpAnyH_take (i := 2) (v := ?_) rfl (by kernel_rfl) (by kernel_rfl) (by kernel_rfl) (fun _ _ _ h => h) (Or.inl ⟨by rfl, ?_⟩) (by assumption) ?_
                        rotate_left
                        · (intro w hSw; (try dsimp only at hSw); go_simp; try with_reducible rfl)
                        try simp only [Act.put, List.setIfInBounds_toArray, List.set_cons_zero, List.set_cons_succ, List.getElem_toArray, List.getElem_cons_zero, List.getElem_cons_succ]
                        refine wpAnyH_take (i := 3) (v := ?_) rfl (by kernel_rfl) (by kernel_rfl) (by kernel_rfl) (fun _ _ _ h => h) (Or.inl ⟨by rfl, ?_⟩) (by assumption) ?_
                        rotate_left
                        · (intro w hSw; (try dsimp only at hSw); go_simp; try with_reducible rfl)
                        try simp only [Act.put, List.setIfInBounds_toArray, List.set_cons_zero, List.set_cons_succ, List.getElem_toArray, List.getElem_cons_zero, List.getElem_cons_succ]
                        refine wpAnyH_take (i := 4) (v := ?_) rfl (by kernel_rfl) (by kernel_rfl) (by kernel_rfl) (fun _ _ _ h => h) (Or.inl ⟨by rfl, ?_⟩) (by assumption) ?_
                        rotate_left
                        · (intro w hSw; (try dsimp only at hSw); go_simp; try with_reducible rfl)
                        try simp only [Act.put, List.setIfInBounds_toArray, List.set_cons_zero, List.set_cons_succ, List.getElem_toArray, List.getElem_cons_zero, List.getElem_cons_succ]
                        refine wpAnyH_take (i := 5) (v := ?_) rfl (by kernel_rfl) (by kernel_rfl) (by kernel_rfl) (fun _ _ _ h => h) (Or.inl ⟨by rfl, ?_⟩) (by assumption) ?_
                        rotate_left
                        · (intro w hSw; (try dsimp only at hSw); go_simp; try with_reducible rfl)
                        try simp only [Act.put, List.setIfInBounds_toArray, List.set_cons_zero, List.set_cons_succ, List.getElem_toArray, List.getElem_cons_zero, List.getElem_cons_succ]
                        refine wpAnyH_take (i := 6) (v := ?_) rfl (by kernel_rfl) (by kernel_rfl) (by kernel_rfl) (fun _ _ _ h => h) (Or.inl ⟨by rfl, ?_⟩) (by assumption) ?_
                        rotate_left
                        · (intro w hSw; (try dsimp only at hSw); go_simp; try with_reducible rfl)
                        try simp only [Act.put, List.setIfInBounds_toArray, List.set_cons_zero, List.set_cons_succ, List.getElem_toArray, List.getElem_cons_zero, List.getElem_cons_succ]
                        refine wpAnyH_take (i := 7) rfl (by kernel_rfl) (by kernel_rfl) (by kernel_rfl) (fun _ _ _ h => h) (Or.inr ⟨by rfl, rfl⟩) (by assumption) ?_
                        try simp only [Act.put, List.setIfInBounds_toArray, List.set_cons_zero, List.set_cons_succ, List.getElem_toArray, List.getElem_cons_zero, List.getElem_cons_succ]
                        refine wpAnyH_take (i := 8) rfl (by kernel_rfl) (by kernel_rfl) (by kernel_rfl) (fun _ _ _ h => h) (Or.inr ⟨by rfl, rfl⟩) (by assumption) ?_
                        try simp only [Act.put, List.setIfInBounds_toArray, List.set_cons_zero, List.set_cons_succ, List.getElem_toArray, List.getElem_cons_zero, List.getElem_cons_succ]
                        refine wpAnyH_take (i := 9) rfl (by kernel_rfl) (by kernel_rfl) (by kernel_rfl) (fun _ _ _ h => h) (Or.inr ⟨by rfl, rfl⟩) (by assumption) ?_
                        try simp only [Act.put, List.setIfInBounds_toArray, List.set_cons_zero, List.set_cons_succ, List.getElem_toArray, List.getElem_cons_zero, List.getElem_cons_succ]
                        refine wpAnyH_take (i := 10) rfl (by kernel_rfl) (by kernel_rfl) (by kernel_rfl) (fun _ _ _ h => h) (Or.inr ⟨by rfl, rfl⟩) (by assumption) ?_
                        try simp only [Act.put, List.setIfInBounds_toArray, List.set_cons_zero, List.set_cons_succ, List.getElem_toArray, List.getElem_cons_zero, List.getElem_cons_succ]
                        refine wpAnyH_take (i := 11) rfl (by kernel_rfl) (by kernel_rfl) (by kernel_rfl) (fun _ _ _ h => h) (Or.inr ⟨by rfl, rfl⟩) (by assumption) ?_
                        try simp only [Act.put, List.setIfInBounds_toArray, List.set_cons_zero, List.set_cons_succ, List.getElem_toArray, List.getElem_cons_zero, List.getElem_cons_succ]
                        refine wpAnyH_take (i := 12) rfl (by kernel_rfl) (by kernel_rfl) (by kernel_rfl) (fun _ _ _ h => h) (Or.inr ⟨by rfl, rfl⟩) (by assumption) ?_
                        try simp only [Act.put, List.setIfInBounds_toArray, List.set_cons_zero, List.set_cons_succ, List.getElem_toArray, List.getElem_cons_zero, List.getElem_cons_succ]
                        refine wpAnyH_take (i := 13) rfl (by kernel_rfl) (by kernel_rfl) (by kernel_rfl) (fun _ _ _ h => h) (Or.inr ⟨by rfl, rfl⟩) (by assumption) ?_
                        try simp only [Act.put, List.setIfInBounds_toArray, List.set_cons_zero, List.set_cons_succ, List.getElem_toArray, List.getElem_cons_zero, List.getElem_cons_succ]
                        refine wpAnyH_take (i := 14) (v := ?_) rfl (by kernel_rfl) (by kernel_rfl) (by kernel_rfl) (fun _ _ _ h => h) (Or.inl ⟨by rfl, ?_⟩) (by assumption) ?_
                        rotate_left
                        · (intro w hSw; (try dsimp only at hSw); go_simp; try with_reducible rfl)
                        try simp only [Act.put, List.setIfInBounds_toArray, List.set_cons_zero, List.set_cons_succ, List.getElem_toArray, List.getElem_cons_zero, List.getElem_cons_succ]
                        refine wpAnyH_take (i := 15) (v := ?_) rfl (by kernel_rfl) (by kernel_rfl) (by kernel_rfl) (fun _ _ _ h => h) (Or.inl ⟨by rfl, ?_⟩) (by assumption) ?_
                        rotate_left
                        · (intro w hSw; (try dsimp only at hSw); go_simp; try with_reducible rfl)
                        try simp only [Act.put, List.setIfInBounds_toArray, List.set_cons_zero, List.set_cons_succ, List.getElem_toArray, List.getElem_cons_zero, List.getElem_cons_succ]
                        refine wpAnyH_take (i := 16) rfl (by kernel_rfl) (by kernel_rfl) (by kernel_rfl) (fun _ _ _ h => h) (Or.inr ⟨by rfl, rfl⟩) (by assumption) ?_
                        try simp only [Act.put, List.setIfInBounds_toArray, List.set_cons_zero, List.set_cons_succ, List.getElem_toArray, List.getElem_cons_zero, List.getElem_cons_succ]
                        refine wpAnyH_take (i := 17) rfl (by kernel_rfl) (by kernel_rfl) (by kernel_rfl) (fun _ _ _ h => h) (Or.inr ⟨by rfl, rfl⟩) (by assumption) ?_
                        try simp only [Act.put, List.setIfInBounds_toArray, List.set_cons_zero, List.set_cons_succ, List.getElem_toArray, List.getElem_cons_zero, List.getElem_cons_succ]
                        refine wpAnyH_take (i := 18) rfl (by kernel_rfl) (by kernel_rfl) (by kernel_rfl) (fun _ _ _ h => h) (Or.inr ⟨by rfl, rfl⟩) (by assumption) ?_
                        try simp only [Act.put, List.setIfInBounds_toArray, List.set_cons_zero, List.set_cons_succ, List.getElem_toArray, List.getElem_cons_zero, List.getElem_cons_succ]
                        refine wpAnyH_take (i := 19) rfl (by kernel_rfl) (by kernel_rfl) (by kernel_rfl) (fun _ _ _ h => h) (Or.inr ⟨by rfl, rfl⟩) (by assumption) ?_
                        try simp only [Act.put, List.setIfInBounds_toArray, List.set_cons_zero, List.set_cons_succ, List.getElem_toArray, List.getElem_cons_zero, List.getElem_cons_succ]
                        refine wpAnyH_take (i := 20) rfl (by kernel_rfl) (by kernel_rfl) (by kernel_rfl) (fun _ _ _ h => h) (Or.inr ⟨by rfl, rfl⟩) (by assumption) ?_
                        try simp only [Act.put, List.setIfInBounds_toArray, List.set_cons_zero, List.set_cons_succ, List.getElem_toArray, List.getElem_cons_zero, List.getElem_cons_succ]
                        refine wpAnyH_take (i := 21) rfl (by kernel_rfl) (by kernel_rfl) (by kernel_rfl) (fun _ _ _ h => h) (Or.inr ⟨by rfl, rfl⟩) (by assumption) ?_
                        try simp only [Act.put, List.setIfInBounds_toArray, List.set_cons_zero, List.set_cons_succ, List.getElem_toArray, List.getElem_cons_zero, List.getElem_cons_succ]
                        refine wpAnyH_take (i := 22) rfl (by kernel_rfl) (by kernel_rfl) (by kernel_rfl) (fun _ _ _ h => h) (Or.inr ⟨by rfl, rfl⟩) (by assumption) ?_
                        try simp only [Act.put, List.setIfInBounds_toArray, List.set_cons_zero, List.set_cons_succ, List.getElem_toArray, List.getElem_cons_zero, List.getElem_cons_succ]
                        refine wpAnyH_take (i := 23) rfl (by kernel_rfl) (by kernel_rfl) (by kernel_rfl) (fun _ _ _ h => h) (Or.inr ⟨by rfl, rfl⟩) (by assumption) ?_
                        try simp only [Act.put, List.setIfInBounds_toArray, List.set_cons_zero, List.set_cons_succ, List.getElem_toArray, List.getElem_cons_zero, List.getElem_cons_succ]
                        refine wpAnyH_take (i := 24) rfl (by kernel_rfl) (by kernel_rfl) (by kernel_rfl) (fun _ _ _ h => h) (Or.inr ⟨by rfl, rfl⟩) (by assumption) ?_
                        try simp only [Act.put, List.setIfInBounds_toArray, List.set_cons_zero, List.set_cons_succ, List.getElem_toArray, List.getElem_cons_zero, List.getElem_cons_succ]
                        refine wpAnyH_take (i := 25) rfl (by kernel_rfl) (by kernel_rfl) (by kernel_rfl) (fun _ _ _ h => h) (Or.inr ⟨by rfl, rfl⟩) (by assumption) ?_
                        try simp only [Act.put, List.setIfInBounds_toArray, List.set_cons_zero, List.set_cons_succ, List.getElem_toArray, List.getElem_cons_zero, List.getElem_cons_succ]
                        refine wpAnyH_take (i := 26) rfl (by kernel_rfl) (by kernel_rfl) (by kernel_rfl) (fun _ _ _ h => h) (Or.inr ⟨by rfl, rfl⟩) (by assumption) ?_
                        try simp only [Act.put, List.setIfInBounds_toArray, List.set_cons_zero, List.set_cons_succ, List.getElem_toArray, List.getElem_cons_zero, List.getElem_cons_succ]
                        refine wpAnyH_take (i := 27) rfl (by kernel_rfl) (by kernel_rfl) (by kernel_rfl) (fun _ _ _ h => h) (Or.inr ⟨by rfl, rfl⟩) (by assumption) ?_
                        try simp only [Act.put, List.setIfInBounds_toArray, List.set_cons_zero, List.set_cons_succ, List.getElem_toArray, List.getElem_cons_zero, List.getElem_cons_succ]
                        refine wpAnyH_take (i := 28) rfl (by kernel_rfl) (by kernel_rfl) (by kernel_rfl) (fun _ _ _ h => h) (Or.inr ⟨by rfl, rfl⟩) (by assumption) ?_
                        try simp only [Act.put, List.setIfInBounds_toArray, List.set_cons_zero, List.set_cons_succ, List.getElem_toArray, List.getElem_cons_zero, List.getElem_cons_succ]
                        refine wpAnyH_take (i := 29) (v := ?_) rfl (by kernel_rfl) (by kernel_rfl) (by kernel_rfl) (fun _ _ _ h => h) (Or.inl ⟨by rfl, ?_⟩) (by assumption) ?_
                        rotate_left
                        · (intro w hSw; (try dsimp only at hSw); go_simp; try with_reducible rfl)
                        try simp only [Act.put, List.setIfInBounds_toArray, List.set_cons_zero, List.set_cons_succ, List.getElem_toArray, List.getElem_cons_zero, List.getElem_cons_succ]
                        refine wpAnyH_done (by kernel_rfl) ?_ _
                        all_goals
                          go_wp2_with fail
                          go_roundw
                          case rel => exact HN5.out
                          case measure => have := HY1.out; simp [intOf]; omega
                      | false =>
                        rw [ht] at d4
                        by_cases hxl : L ≤ x.l
                        · have lI : (L : Int) ≤ (x.l : Int) := by omega
                          have HWY := Lib.hid (HSPA.out x HXM.out ht L hxl)
                          have HLK := Lib.hid (HLNK.out L)
                          have HTE := Lib.hid (HTEV.out L)
                          have HN5 : Hid (∀ W, Below wr.drew.heap.size wr.drew W → KT13 wC ln (.int .i64 ((y : Int) + 1)) W) := Lib.hid fun W hb => ⟨y + 1, HY1.out, by simp, HBz.out.trans (hb.mono HBz.out.size)⟩
                          have HD4 := Lib.hid (And.intro d1 (And.intro d2 (And.intro d3 d4)))
                          clear HBy HGy HEWy hxl
                          go_wp2_with fail
                          refine wp_region_held_drew (S := (fun W => W.cell? ⟨gl, y * 5 + 1, none⟩ = some (.int .i64 (x.u : Int)) ∧ W.cell? ⟨gl, y * 5 + 2, none⟩ = some (.int .i64 (x.v : Int)) ∧ W.cell? ⟨gl, y * 5 + 3, none⟩ = some (.int .i64 (x.l : Int)) ∧ W.cell? ⟨gl, y * 5 + 4, none⟩ = some (.bool false))) (by kernel_rfl) ?_ (fun hHeld => ?_)
                          · exact ⟨d1, d2, d3, d4⟩
                          refine wpAnyH_take (i := 0) (v := ?_) rfl (by kernel_rfl) (by kernel_rfl) (by kernel_rfl) (fun _ _ _ h => h) (Or.inl ⟨by rfl, ?_⟩) (by assumption) ?_
                          rotate_left
                          · (intro w hSw; (try dsimp only at hSw); go_simp; try with_reducible rfl)
                          try simp only [Act.put, List.setIfInBounds_toArray, List.set_cons_zero, List.set_cons_succ, List.getElem_toArray, List.getElem_cons_zero]
                          refine wpAnyH_take (i := 1) (v := ?_) rfl (by kernel_rfl) (by kernel_rfl) (by kernel_rfl) (fun _ _ _ h => h) (Or.inl ⟨by rfl, ?_⟩) (by assumption) ?_
                          rotate_left
                          · (intro w hSw; (try dsimp only at hSw); go_simp; try with_reducible rfl)
                          try simp only [Act.put, List.setIfInBounds_toArray, List.set_cons_zero, List.set_cons_succ, List.getElem_toArray, List.getElem_cons_zero, List.getElem_cons_succ]
                          refine wpAnyH_take (i := 2) (v := ?_) rfl (by kernel_rfl) (by kernel_rfl) (by kernel_rfl) (fun _ _ _ h => h) (Or.inl ⟨by rfl, ?_⟩) (by assumption) ?_
                          rotate_left
                          · (intro w hSw; (try dsimp only at hSw); go_simp; try with_reducible rfl)
                          try simp only [Act.put, List.setIfInBounds_toArray, List.set_cons_zero, List.set_cons_succ, List.getElem_toArray, List.getElem_cons_zero, List.getElem_cons_succ]
                          refine wpAnyH_take (i := 3) (v := ?_) rfl (by kernel_rfl) (by kernel_rfl) (by kernel_rfl) (fun _ _ _ h => h) (Or.inl ⟨by rfl, ?_⟩) (by assumption) ?_
                          rotate_left
                          · (intro w hSw; (try dsimp only at hSw); go_simp; try with_reducible rfl)
                          try simp only [Act.put, List.setIfInBounds_toArray, List.set_cons_zero, List.set_cons_succ, List.getElem_toArray, List.getElem_cons_zero, List.getElem_cons_succ]
                          refine wpAnyH_take (i := 4) (v := ?_) rfl (by kernel_rfl) (by kernel_rfl) (by kernel_rfl) (fun _ _ _ h => h) (Or.inl ⟨by rfl, ?_⟩) (by assumption) ?_
                          rotate_left
                          · (intro w hSw; (try dsimp only at hSw); go_simp; try with_reducible rfl)
                          try simp only [Act.put, List.setIfInBounds_toArray, List.set_cons_zero, List.set_cons_succ, List.getElem_toArray, List.getElem_cons_zero, List.getElem_cons_succ]
                          refine wpAnyH_take (i := 5) (v := ?_) rfl (by kernel_rfl) (by kernel_rfl) (by kernel_rfl) (fun _ _ _ h => h) (Or.inl ⟨by rfl, ?_⟩) (by assumption) ?_
                          rotate_left
                          · (intro w hSw; (try dsimp only at hSw); go_simp; try with_reducible rfl)
                          try simp only [Act.put, List.setIfInBounds_toArray, List.set_cons_zero, List.set_cons_succ, List.getElem_toArray, List.getElem_cons_zero, List.getElem_cons_succ]
                          refine wpAnyH_take (i := 6) (v := ?_) rfl (by kernel_rfl) (by kernel_rfl) (by kernel_rfl) (fun _ _ _ h => h) (Or.inl ⟨by rfl, ?_⟩) (by assumption) ?_
                          rotate_left
                          · (intro w hSw; (try dsimp only at hSw); go_simp; try with_reducible rfl)
                          try simp only [Act.put, List.setIfInBounds_toArray, List.set_cons_zero, List.set_cons_succ, List.getElem_toArray, List.getElem_cons_zero, List.getElem_cons_succ]
                          refine wpAnyH_take (i := 7) (v := ?_) rfl (by kernel_rfl) (by kernel_rfl) (by kernel_rfl) (fun _ _ _ h => h) (Or.inl ⟨by rfl, ?_⟩) (by assumption) ?_
                          rotate_left
                          · (intro w hSw; (try dsimp only at hSw); go_simp; try with_reducible rfl)
                          try simp only [Act.put, List.setIfInBounds_toArray, List.set_cons_zero, List.set_cons_succ, List.getElem_toArray, List.getElem_cons_zero, List.getElem_cons_succ]
                          refine wpAnyH_take (i := 8) (v := ?_) rfl (by kernel_rfl) (by kernel_rfl) (by kernel_rfl) (fun _ _ _ h => h) (Or.inl ⟨by rfl, ?_⟩) (by assumption) ?_
                          rotate_left
                          · (intro w hSw; (try dsimp only at hSw); go_simp; try with_reducible rfl)
                          try simp only [Act.put, List.setIfInBounds_toArray, List.set_cons_zero, List.set_cons_succ, List.getElem_toArray, List.getElem_cons_zero, List.getElem_cons_succ]
                          refine wpAnyH_take (i := 9) (v := ?_) rfl (by kernel_rfl) (by kernel_rfl) (by kernel_rfl) (fun _ _ _ h => h) (Or.inl ⟨by rfl, ?_⟩) (by assumption) ?_
                          rotate_left
                          · (intro w hSw; (try dsimp only at hSw); go_simp; try with_reducible rfl)
                          try simp only [Act.put, List.setIfInBounds_toArray, List.set_cons_zero, List.set_cons_succ, List.getElem_toArray, List.getElem_cons_zero, List.getElem_cons_succ]
                          refine wpAnyH_take (i := 10) (v := ?_) rfl (by kernel_rfl) (by kernel_rfl) (by kernel_rfl) (fun _ _ _ h => h) (Or.inl ⟨by rfl, ?_⟩) (by assumption) ?_
                          rotate_left
                          · (intro w hSw; (try dsimp only at hSw); go_simp; try with_reducible rfl)
                          try simp only [Act.put, List.setIfInBounds_toArray, List.set_cons_zero, List.set_cons_succ, List.getElem_toArray, List.getElem_cons_zero, List.getElem_cons_succ]
                          refine wpAnyH_take (i := 11) (v := ?_) rfl (by kernel_rfl) (by kernel_rfl) (by kernel_rfl) (fun _ _ _ h => h) (Or.inl ⟨by rfl, ?_⟩) (by assumption) ?_
                          rotate_left
                          · (intro w hSw; (try dsimp only at hSw); go_simp; try with_reducible rfl)
                          try simp only [Act.put, List.setIfInBounds_toArray, List.set_cons_zero, List.set_cons_succ, List.getElem_toArray, List.getElem_cons_zero, List.getElem_cons_succ]
                          refine wpAnyH_take (i := 12) (v := ?_) rfl (by kernel_rfl) (by kernel_rfl) (by kernel_rfl) (fun _ _ _ h => h) (Or.inl ⟨by rfl, ?_⟩) (by assumption) ?_
                          rotate_left
                          · (intro w hSw; (try dsimp only at hSw); go_simp; try with_reducible rfl)
                          try simp only [Act.put, List.setIfInBounds_toArray, List.set_cons_zero, List.set_cons_succ, List.getElem_toArray, List.getElem_cons_zero, List.getElem_cons_succ]
                          refine wpAnyH_take (i := 13) (v := .bool true) rfl (by kernel_rfl) (by kernel_rfl) (by kernel_rfl) (fun _ _ _ h => h) (Or.inl ⟨by rfl, ?_⟩) (by assumption) ?_
                          · (intro w hSw; (try dsimp only at hSw); go_simp)
                          try simp only [Act.put, List.setIfInBounds_toArray, List.set_cons_zero, List.set_cons_succ, List.getElem_toArray, List.getElem_cons_zero, List.getElem_cons_succ]
                          refine wpAnyH_take (i := 14) (v := ?_) rfl (by kernel_rfl) (by kernel_rfl) (by kernel_rfl) (fun _ _ _ h => h) (Or.inl ⟨by rfl, ?_⟩) (by assumption) ?_
                          rotate_left
                          · (intro w hSw; (try dsimp only at hSw); go_simp; try with_reducible rfl)
                          try simp only [Act.put, List.setIfInBounds_toArray, List.set_cons_zero, List.set_cons_succ, List.getElem_toArray, List.getElem_cons_zero, List.getElem_cons_succ]
                          refine wpAnyH_take (i := 15) (v := ?_) rfl (by kernel_rfl) (by kernel_rfl) (by kernel_rfl) (fun _ _ _ h => h) (Or.inl ⟨by rfl, ?_⟩) (by assumption) ?_
                          rotate_left
                          · (intro w hSw; (try dsimp only at hSw); go_simp; try with_reducible rfl)
                          try simp only [Act.put, List.setIfInBounds_toArray, List.set_cons_zero, List.set_cons_succ, List.getElem_toArray, List.getElem_cons_zero, List.getElem_cons_succ]
                          refine wpAnyH_take (i := 16) (v := ?_) rfl (by kernel_rfl) (by kernel_rfl) (by kernel_rfl) (fun _ _ _ h => h) (Or.inl ⟨by rfl, ?_⟩) (by assumption) ?_
                          rotate_left
                          · (intro w hSw; (try dsimp only at hSw); go_simp; try with_reducible rfl)
                          try simp only [Act.put, List.setIfInBounds_toArray, List.set_cons_zero, List.set_cons_succ, List.getElem_toArray, List.getElem_cons_zero, List.getElem_cons_succ]
                          refine wpAnyH_take (i := 17) (v := ?_) rfl (by kernel_rfl) (by kernel_rfl) (by kernel_rfl) (fun _ _ _ h => h) (Or.inl ⟨by rfl, ?_⟩) (by assumption) ?_
                          rotate_left
                          · (intro w hSw; (try dsimp only at hSw); go_simp; try with_reducible rfl)
                          try simp only [Act.put, List.setIfInBounds_toArray, List.set_cons_zero, List.set_cons_succ, List.getElem_toArray, List.getElem_cons_zero, List.getElem_cons_succ]
                          refine wpAnyH_take (i := 18) (v := ?_) rfl (by kernel_rfl) (by kernel_rfl) (by kernel_rfl) (fun _ _ _ h => h) (Or.inl ⟨by rfl, ?_⟩) (by assumption) ?_
                          rotate_left
                          · (intro w hSw; (try dsimp only at hSw); go_simp; try with_reducible rfl)
                          try simp only [Act.put, List.setIfInBounds_toArray, List.set_cons_zero, List.set_cons_succ, List.getElem_toArray, List.getElem_cons_zero, List.getElem_cons_succ]
                          refine wpAnyH_take (i := 19) (v := ?_) rfl (by kernel_rfl) (by kernel_rfl) (by kernel_rfl) (fun _ _ _ h => h) (Or.inl ⟨by rfl, ?_⟩) (by assumption) ?_
                          rotate_left
                          · (intro w hSw; (try dsimp only at hSw); go_simp; try with_reducible rfl)
                          try simp only [Act.put, List.setIfInBounds_toArray, List.set_cons_zero, List.set_cons_succ, List.getElem_toArray, List.getElem_cons_zero, List.getElem_cons_succ]
                          refine wpAnyH_take (i := 20) (v := ?_) rfl (by kernel_rfl) (by kernel_rfl) (by kernel_rfl) (fun _ _ _ h => h) (Or.inl ⟨by rfl, ?_⟩) (by assumption) ?_
                          rotate_left
                          · (intro w hSw; (try dsimp only at hSw); go_simp; try with_reducible rfl)
                          try simp only [Act.put, List.setIfInBounds_toArray, List.set_cons_zero, List.set_cons_succ, List.getElem_toArray, List.getElem_cons_zero, List.getElem_cons_succ]
                          refine wpAnyH_take (i := 21) (v := ?_) rfl (by kernel_rfl) (by kernel_rfl) (by kernel_rfl) (fun _ _ _ h => h) (Or.inl ⟨by rfl, ?_⟩) (by assumption) ?_
                          rotate_left
                          · (intro w hSw; (try dsimp only at hSw); go_simp; try with_reducible rfl)
                          try simp only [Act.put, List.setIfInBounds_toArray, List.set_cons_zero, List.set_cons_succ, List.getElem_toArray, List.getElem_cons_zero, List.getElem_cons_succ]
                          refine wpAnyH_take (i := 22) (v := ?_) rfl (by kernel_rfl) (by kernel_rfl) (by kernel_rfl) (fun _ _ _ h => h) (Or.inl ⟨by rfl, ?_⟩) (by assumption) ?_
                          rotate_left
                          · (intro w hSw; (try dsimp only at hSw); go_simp; try with_reducible rfl)
                          try simp only [Act.put, List.setIfInBounds_toArray, List.set_cons_zero, List.set_cons_succ, List.getElem_toArray, List.getElem_cons_zero, List.getElem_cons_succ]
                          refine wpAnyH_take (i := 23) (v := ?_) rfl (by kernel_rfl) (by kernel_rfl) (by kernel_rfl) (fun _ _ _ h => h) (Or.inl ⟨by rfl, ?_⟩) (by assumption) ?_
                          rotate_left
                          · (intro w hSw; (try dsimp only at hSw); go_simp; try with_reducible rfl)
                          try simp only [Act.put, List.setIfInBounds_toArray, List.set_cons_zero, List.set_cons_succ, List.getElem_toArray, List.getElem_cons_zero, List.getElem_cons_succ]
                          refine wpAnyH_take (i := 24) (v := ?_) rfl (by kernel_rfl) (by kernel_rfl) (by kernel_rfl) (fun _ _ _ h => h) (Or.inl ⟨by rfl, ?_⟩) (by assumption) ?_
                          rotate_left
                          · (intro w hSw; (try dsimp only at hSw); go_simp; try with_reducible rfl)
                          try simp only [Act.put, List.setIfInBounds_toArray, List.set_cons_zero, List.set_cons_succ, List.getElem_toArray, List.getElem_cons_zero, List.getElem_cons_succ]
                          refine wpAnyH_take (i := 25) (v := ?_) rfl (by kernel_rfl) (by kernel_rfl) (by kernel_rfl) (fun _ _ _ h => h) (Or.inl ⟨by rfl, ?_⟩) (by assumption) ?_
                          rotate_left
                          · (intro w hSw; (try dsimp only at hSw); go_simp; try with_reducible rfl)
                          try simp only [Act.put, List.setIfInBounds_toArray, List.set_cons_zero, List.set_cons_succ, List.getElem_toArray, List.getElem_cons_zero, List.getElem_cons_succ]
                          refine wpAnyH_take (i := 26) (v := ?_) rfl (by kernel_rfl) (by kernel_rfl) (by kernel_rfl) (fun _ _ _ h => h) (Or.inl ⟨by rfl, ?_⟩) (by assumption) ?_
                          rotate_left
                          · (intro w hSw; (try dsimp only at hSw); go_simp; try with_reducible rfl)
                          try simp only [Act.put, List.setIfInBounds_toArray, List.set_cons_zero, List.set_cons_succ, List.getElem_toArray, List.getElem_cons_zero, List.getElem_cons_succ]
                          refine wpAnyH_ready (rs := [27]) (by kernel_rfl) (by simp) ?_
                          refine AllReadyH.cons rfl (fun K hK => ?_) ?_
                          rotate_left
                          · exact AllReadyH.nil
                          go_simp
                          ((with_reducible refine (joined13 (t := true) (x := x.u) (y := x.v) (HGz.out.gi HGN.out) (by rw [HGN.out]; exact HSN.out) HLK.out HXV.out HVN.out HTE.out ⟨fun _ => HWY.out, fun _ => rfl⟩).mono ?_); rintro e w11 ⟨rfl, b11⟩; have HN6 := Lib.hid (HN5.out _ b11); have HS6 := Lib.hid (And.intro (cell_later b11 HD4.out.1) (And.intro (cell_later b11 HD4.out.2.1) (And.intro (cell_later b11 HD4.out.2.2.1) (cell_later b11 HD4.out.2.2.2)))))
                          go_wp2_with fail
                          refine hK.out _ _ ?_ (fun hHeld => ?_)
                          · (try dsimp only); (first | (with_reducible assumption) | (with_reducible exact HS6.out) | (with_reducible exact ⟨d1, d2, d3, d4⟩))
                          clear hK K
                          try simp only [Act.put, List.setIfInBounds_toArray, List.set_cons_zero, List.set_cons_succ, List.getElem_toArray, List.getElem_cons_zero, List.getElem_cons_succ]
                          refine wpAnyH_take (i := 28) (v := ?_) rfl (by kernel_rfl) (by kernel_rfl) (by kernel_rfl) (fun _ _ _ h => h) (Or.inl ⟨by rfl, ?_⟩) (by assumption) ?_
                          rotate_left
                          · (intro w hSw; (try dsimp only at hSw); go_simp; try with_reducible rfl)
                          try simp only [Act.put, List.setIfInBounds_toArray, List.set_cons_zero, List.set_cons_succ, List.getElem_toArray, List.getElem_cons_zero, List.getElem_cons_succ]
                          refine wpAnyH_take (i := 29) (v := ?_) rfl (by kernel_rfl) (by kernel_rfl) (by kernel_rfl) (fun _ _ _ h => h) (Or.inl ⟨by rfl, ?_⟩) (by assumption) ?_
                          rotate_left
                          · (intro w hSw; (try dsimp only at hSw); go_simp; try with_reducible rfl)
                          try simp only [Act.put, List.setIfInBounds_toArray, List.set_cons_zero, List.set_cons_succ, List.getElem_toArray, List.getElem_cons_zero, List.getElem_cons_succ]
                          refine wpAnyH_done (by kernel_rfl) ?_ _
                          all_goals
                            go_wp2_with fail
                            go_roundw
                            case rel => exact HN6.out
                            case measure => have := HY1.out; simp [intOf]; omega
                        · have lI : ¬ (L : Int) ≤ (x.l : Int) := by omega
                          have HN5 : Hid (KT13 wC ln (.int .i64 ((y : Int) + 1)) wr.drew) := Lib.hid ⟨y + 1, HY1.out, by simp, HBz.out⟩
                          clear HBy HBz HGz HGy HEWy hxl
                          go_wp2_with fail
                          refine wp_region_held_drew (S := (fun W => W.cell? ⟨gl, y * 5 + 1, none⟩ = some (.int .i64 (x.u : Int)) ∧ W.cell? ⟨gl, y * 5 + 2, none⟩ = some (.int .i64 (x.v : Int)) ∧ W.cell? ⟨gl, y * 5 + 3, none⟩ = some (.int .i64 (x.l : Int)) ∧ W.cell? ⟨gl, y * 5 + 4, none⟩ = some (.bool false))) (by kernel_rfl) ?_ (fun hHeld => ?_)
                          · exact ⟨d1, d2, d3, d4⟩
                          refine wpAnyH_take (i := 0) (v := ?_) rfl (by kernel_rfl) (by kernel_rfl) (by kernel_rfl) (fun _ _ _ h => h) (Or.inl ⟨by rfl, ?_⟩) (by assumption) ?_
                          rotate_left
                          · (intro w hSw; (try dsimp only at hSw); go_simp; try with_reducible rfl)
                          try simp only [Act.put, List.setIfInBounds_toArray, List.set_cons_zero, List.set_cons_succ, List.getElem_toArray, List.getElem_cons_zero]
                          refine wpAnyH_take (i := 1) (v := ?_) rfl (by kernel_rfl) (by kernel_rfl) (by kernel_rfl) (fun _ _ _ h => h) (Or.inl ⟨by rfl, ?_⟩) (by assumption) ?_
                          rotate_left
                          · (intro w hSw; (try dsimp only at hSw); go_simp; try with_reducible rfl)
                          try simp only [Act.put, List.setIfInBounds_toArray, List.set_cons_zero, List.set_cons_succ, List.getElem_toArray, List.getElem_cons_zero, List.getElem_cons_succ]
                          refine wpAnyH_take (i := 2) (v := ?_) rfl (by kernel_rfl) (by kernel_rfl) (by kernel_rfl) (fun _ _ _ h => h) (Or.inl ⟨by rfl, ?_⟩) (by assumption) ?_
                          rotate_left
                          · (intro w hSw; (try dsimp only at hSw); go_simp; try with_reducible rfl)
                          try simp only [Act.put, List.setIfInBounds_toArray, List.set_cons_zero, List.set_cons_succ, List.getElem_toArray, List.getElem_cons_zero, List.getElem_cons_succ]
                          refine wpAnyH_take (i := 3) (v := ?_) rfl (by kernel_rfl) (by kernel_rfl) (by kernel_rfl) (fun _ _ _ h => h) (Or.inl ⟨by rfl, ?_⟩) (by assumption) ?_
                          rotate_left
                          · (intro w hSw; (try dsimp only at hSw); go_simp; try with_reducible rfl)
                          try simp only [Act.put, List.setIfInBounds_toArray, List.set_cons_zero, List.set_cons_succ, List.getElem_toArray, List.getElem_cons_zero, List.getElem_cons_succ]
                          refine wpAnyH_take (i := 4) (v := ?_) rfl (by kernel_rfl) (by kernel_rfl) (by kernel_rfl) (fun _ _ _ h => h) (Or.inl ⟨by rfl, ?_⟩) (by assumption) ?_
                          rotate_left
                          · (intro w hSw; (try dsimp only at hSw); go_simp; try with_reducible rfl)
                          try simp only [Act.put, List.setIfInBounds_toArray, List.set_cons_zero, List.set_cons_succ, List.getElem_toArray, List.getElem_cons_zero, List.getElem_cons_succ]
                          refine wpAnyH_take (i := 5) (v := ?_) rfl (by kernel_rfl) (by kernel_rfl) (by kernel_rfl) (fun _ _ _ h => h) (Or.inl ⟨by rfl, ?_⟩) (by assumption) ?_
                          rotate_left
                          · (intro w hSw; (try dsimp only at hSw); go_simp; try with_reducible rfl)
                          try simp only [Act.put, List.setIfInBounds_toArray, List.set_cons_zero, List.set_cons_succ, List.getElem_toArray, List.getElem_cons_zero, List.getElem_cons_succ]
                          refine wpAnyH_take (i := 6) (v := ?_) rfl (by kernel_rfl) (by kernel_rfl) (by kernel_rfl) (fun _ _ _ h => h) (Or.inl ⟨by rfl, ?_⟩) (by assumption) ?_
                          rotate_left
                          · (intro w hSw; (try dsimp only at hSw); go_simp; try with_reducible rfl)
                          try simp only [Act.put, List.setIfInBounds_toArray, List.set_cons_zero, List.set_cons_succ, List.getElem_toArray, List.getElem_cons_zero, List.getElem_cons_succ]
                          refine wpAnyH_take (i := 7) (v := ?_) rfl (by kernel_rfl) (by kernel_rfl) (by kernel_rfl) (fun _ _ _ h => h) (Or.inl ⟨by rfl, ?_⟩) (by assumption) ?_
                          rotate_left
                          · (intro w hSw; (try dsimp only at hSw); go_simp; try with_reducible rfl)
                          try simp only [Act.put, List.setIfInBounds_toArray, List.set_cons_zero, List.set_cons_succ, List.getElem_toArray, List.getElem_cons_zero, List.getElem_cons_succ]
                          refine wpAnyH_take (i := 8) (v := ?_) rfl (by kernel_rfl) (by kernel_rfl) (by kernel_rfl) (fun _ _ _ h => h) (Or.inl ⟨by rfl, ?_⟩) (by assumption) ?_
                          rotate_left
                          · (intro w hSw; (try dsimp only at hSw); go_simp; try with_reducible rfl)
                          try simp only [Act.put, List.setIfInBounds_toArray, List.set_cons_zero, List.set_cons_succ, List.getElem_toArray, List.getElem_cons_zero, List.getElem_cons_succ]
                          refine wpAnyH_take (i := 9) (v := ?_) rfl (by kernel_rfl) (by kernel_rfl) (by kernel_rfl) (fun _ _ _ h => h) (Or.inl ⟨by rfl, ?_⟩) (by assumption) ?_
                          rotate_left
                          · (intro w hSw; (try dsimp only at hSw); go_simp; try with_reducible rfl)
                          try simp only [Act.put, List.setIfInBounds_toArray, List.set_cons_zero, List.set_cons_succ, List.getElem_toArray, List.getElem_cons_zero, List.getElem_cons_succ]
                          refine wpAnyH_take (i := 10) (v := ?_) rfl (by kernel_rfl) (by kernel_rfl) (by kernel_rfl) (fun _ _ _ h => h) (Or.inl ⟨by rfl, ?_⟩) (by assumption) ?_
                          rotate_left
                          · (intro w hSw; (try dsimp only at hSw); go_simp; try with_reducible rfl)
                          try simp only [Act.put, List.setIfInBounds_toArray, List.set_cons_zero, List.set_cons_succ, List.getElem_toArray, List.getElem_cons_zero, List.getElem_cons_succ]
                          refine wpAnyH_take (i := 11) (v := ?_) rfl (by kernel_rfl) (by kernel_rfl) (by kernel_rfl) (fun _ _ _ h => h) (Or.inl ⟨by rfl, ?_⟩) (by assumption) ?_
                          rotate_left
                          · (intro w hSw; (try dsimp only at hSw); go_simp; try with_reducible rfl)
                          try simp only [Act.put, List.setIfInBounds_toArray, List.set_cons_zero, List.set_cons_succ, List.getElem_toArray, List.getElem_cons_zero, List.getElem_cons_succ]
                          refine wpAnyH_take (i := 12) (v := ?_) rfl (by kernel_rfl) (by kernel_rfl) (by kernel_rfl) (fun _ _ _ h => h) (Or.inl ⟨by rfl, ?_⟩) (by assumption) ?_
                          rotate_left
                          · (intro w hSw; (try dsimp only at hSw); go_simp; try with_reducible rfl)
                          try simp only [Act.put, List.setIfInBounds_toArray, List.set_cons_zero, List.set_cons_succ, List.getElem_toArray, List.getElem_cons_zero, List.getElem_cons_succ]
                          refine wpAnyH_take (i := 13) (v := .bool false) rfl (by kernel_rfl) (by kernel_rfl) (by kernel_rfl) (fun _ _ _ h => h) (Or.inl ⟨by rfl, ?_⟩) (by assumption) ?_
                          · (intro w hSw; (try dsimp only at hSw); go_simp; omega)
                          try simp only [Act.put, List.setIfInBounds_toArray, List.set_cons_zero, List.set_cons_succ, List.getElem_toArray, List.getElem_cons_zero, List.getElem_cons_succ]
                          refine wpAnyH_take (i := 14) (v := ?_) rfl (by kernel_rfl) (by kernel_rfl) (by kernel_rfl) (fun _ _ _ h => h) (Or.inl ⟨by rfl, ?_⟩) (by assumption) ?_
                          rotate_left
                          · (intro w hSw; (try dsimp only at hSw); go_simp; try with_reducible rfl)
                          try simp only [Act.put, List.setIfInBounds_toArray, List.set_cons_zero, List.set_cons_succ, List.getElem_toArray, List.getElem_cons_zero, List.getElem_cons_succ]
                          refine wpAnyH_take (i := 15) (v := ?_) rfl (by kernel_rfl) (by kernel_rfl) (by kernel_rfl) (fun _ _ _ h => h) (Or.inl ⟨by rfl, ?_⟩) (by assumption) ?_
                          rotate_left
                          · (intro w hSw; (try dsimp only at hSw); go_simp; try with_reducible rfl)
                          try simp only [Act.put, List.setIfInBounds_toArray, List.set_cons_zero, List.set_cons_succ, List.getElem_toArray, List.getElem_cons_zero, List.getElem_cons_succ]
                          refine wpAnyH_take (i := 16) rfl (by kernel_rfl) (by kernel_rfl) (by kernel_rfl) (fun _ _ _ h => h) (Or.inr ⟨by rfl, rfl⟩) (by assumption) ?_
                          try simp only [Act.put, List.setIfInBounds_toArray, List.set_cons_zero, List.set_cons_succ, List.getElem_toArray, List.getElem_cons_zero, List.getElem_cons_succ]
                          refine wpAnyH_take (i := 17) rfl (by kernel_rfl) (by kernel_rfl) (by kernel_rfl) (fun _ _ _ h => h) (Or.inr ⟨by rfl, rfl⟩) (by assumption) ?_
                          try simp only [Act.put, List.setIfInBounds_toArray, List.set_cons_zero, List.set_cons_succ, List.getElem_toArray, List.getElem_cons_zero, List.getElem_cons_succ]
                          refine wpAnyH_take (i := 18) rfl (by kernel_rfl) (by kernel_rfl) (by kernel_rfl) (fun _ _ _ h => h) (Or.inr ⟨by rfl, rfl⟩) (by assumption) ?_
                          try simp only [Act.put, List.setIfInBounds_toArray, List.set_cons_zero, List.set_cons_succ, List.getElem_toArray, List.getElem_cons_zero, List.getElem_cons_succ]
                          refine wpAnyH_take (i := 19) rfl (by kernel_rfl) (by kernel_rfl) (by kernel_rfl) (fun _ _ _ h => h) (Or.inr ⟨by rfl, rfl⟩) (by assumption) ?_
                          try simp only [Act.put, List.setIfInBounds_toArray, List.set_cons_zero, List.set_cons_succ, List.getElem_toArray, List.getElem_cons_zero, List.getElem_cons_succ]
                          refine wpAnyH_take (i := 20) rfl (by kernel_rfl) (by kernel_rfl) (by kernel_rfl) (fun _ _ _ h => h) (Or.inr ⟨by rfl, rfl⟩) (by assumption) ?_
                          try simp only [Act.put, List.setIfInBounds_toArray, List.set_cons_zero, List.set_cons_succ, List.getElem_toArray, List.getElem_cons_zero, List.getElem_cons_succ]
                          refine wpAnyH_take (i := 21) rfl (by kernel_rfl) (by kernel_rfl) (by kernel_rfl) (fun _ _ _ h => h) (Or.inr ⟨by rfl, rfl⟩) (by assumption) ?_
                          try simp only [Act.put, List.setIfInBounds_toArray, List.set_cons_zero, List.set_cons_succ, List.getElem_toArray, List.getElem_cons_zero, List.getElem_cons_succ]
                          refine wpAnyH_take (i := 22) rfl (by kernel_rfl) (by kernel_rfl) (by kernel_rfl) (fun _ _ _ h => h) (Or.inr ⟨by rfl, rfl⟩) (by assumption) ?_
                          try simp only [Act.put, List.setIfInBounds_toArray, List.set_cons_zero, List.set_cons_succ, List.getElem_toArray, List.getElem_cons_zero, List.getElem_cons_succ]
                          refine wpAnyH_take (i := 23) rfl (by kernel_rfl) (by kernel_rfl) (by kernel_rfl) (fun _ _ _ h => h) (Or.inr ⟨by rfl, rfl⟩) (by assumption) ?_
                          try simp only [Act.put, List.setIfInBounds_toArray, List.set_cons_zero, List.set_cons_succ, List.getElem_toArray, List.getElem_cons_zero, List.getElem_cons_succ]
                          refine wpAnyH_take (i := 24) rfl (by kernel_rfl) (by kernel_rfl) (by kernel_rfl) (fun _ _ _ h => h) (Or.inr ⟨by rfl, rfl⟩) (by assumption) ?_
                          try simp only [Act.put, List.setIfInBounds_toArray, List.set_cons_zero, List.set_cons_succ, List.getElem_toArray, List.getElem_cons_zero, List.getElem_cons_succ]
                          refine wpAnyH_take (i := 25) rfl (by kernel_rfl) (by kernel_rfl) (by kernel_rfl) (fun _ _ _ h => h) (Or.inr ⟨by rfl, rfl⟩) (by assumption) ?_
                          try simp only [Act.put, List.setIfInBounds_toArray, List.set_cons_zero, List.set_cons_succ, List.getElem_toArray, List.getElem_cons_zero, List.getElem_cons_succ]
                          refine wpAnyH_take (i := 26) rfl (by kernel_rfl) (by kernel_rfl) (by kernel_rfl) (fun _ _ _ h => h) (Or.inr ⟨by rfl, rfl⟩) (by assumption) ?_
                          try simp only [Act.put, List.setIfInBounds_toArray, List.set_cons_zero, List.set_cons_succ, List.getElem_toArray, List.getElem_cons_zero, List.getElem_cons_succ]
                          refine wpAnyH_take (i := 27) rfl (by kernel_rfl) (by kernel_rfl) (by kernel_rfl) (fun _ _ _ h => h) (Or.inr ⟨by rfl, rfl⟩) (by assumption) ?_
                          try simp only [Act.put, List.setIfInBounds_toArray, List.set_cons_zero, List.set_cons_succ, List.getElem_toArray, List.getElem_cons_zero, List.getElem_cons_succ]
                          refine wpAnyH_take (i := 28) rfl (by kernel_rfl) (by kernel_rfl) (by kernel_rfl) (fun _ _ _ h => h) (Or.inr ⟨by rfl, rfl⟩) (by assumption) ?_
                          try simp only [Act.put, List.setIfInBounds_toArray, List.set_cons_zero, List.set_cons_succ, List.getElem_toArray, List.getElem_cons_zero, List.getElem_cons_succ]
                          refine wpAnyH_take (i := 29) (v := ?_) rfl (by kernel_rfl) (by kernel_rfl) (by kernel_rfl) (fun _ _ _ h => h) (Or.inl ⟨by rfl, ?_⟩) (by assumption) ?_
                          rotate_left
                          · (intro w hSw; (try dsimp only at hSw); go_simp; try with_reducible rfl)
                          try simp only [Act.put, List.setIfInBounds_toArray, List.set_cons_zero, List.set_cons_succ, List.getElem_toArray, List.getElem_cons_zero, List.getElem_cons_succ]
                          refine wpAnyH_done (by kernel_rfl) ?_ _
                          all_goals
                            go_wp2_with fail
                            go_roundw
                            case rel => exact HN5.out
                            case measure => have := HY1.out; simp [intOf]; omega
                    · as_aux_lemma =>
                      have ey : ln = y := by omega
                      subst ey
                      have yN : ¬ (ln : Int) < (ln : Int) := by omega
                      have HN5 : Hid (KV14 w5 nl b.V (.int .i64 z2) (.int .i64 ((L : Int) + 1)) wr) := Lib.hid ⟨L + 1, z2, HLn.out, by simp, rfl, HZ2.out, HBr.out.trans (HBy.out.mono HBr.out.size)⟩
                      clear HBy
                      go_wp2_with fail
                      go_roundw
                      case rel => exact HN5.out
                      case measure => have := HLn.out; simp [intOf]; omega
            · as_aux_lemma =>
              have eL : nl = L := by omega
              subst eL
              have LN : ¬ (nl : Int) < (nl : Int) := by omega
              clear HX6 HBk6 HEW6 HM6 HB6
              go_wp2_with fail
              go_ret
              exact ⟨rfl, HW6.out⟩
end

end Go.Proofs.Ytaooglagddphnaa
