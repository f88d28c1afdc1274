/- The fixed answer; a case opened; the laws' state. -/
import Derived.Test.YtgafnomfdnbblaaZG
import Derived.Test.YtgafnomfdnbblaaZI
import Derived.Lib.SmallJoins
import Derived.Deep.Slices
import Derived.Deep.Fields
import Derived.ChangeSame
import Derived.OpenShut
import Derived.Test.YtgafnomfdnbblaaZH

/- Calls on trees that stand in a forest: Root, Index, Size, Marked, First, List, Merge, Split, Mark; a row has one tree. -/
namespace Go.Proofs.Ytgafnomfdnbblaa
open Go.RowKit

set_option maxRecDepth 100000

/-- A row has one tree. -/
theorem hp_root {pri : Nat → Nat} {x : Nat} {l : List Nat} : ∀ {t : Tp}, Hp pri t → t.row = x :: l → (∀ y ∈ l, ab pri x y = true) → t.root = x
  | .nil, _, h, _ => by simp [Tp.row] at h
  | .node a r b, hp, h, hx => by
    show r = x
    cases ha : a.row with
    | nil => rw [Tp.row_node, ha] at h; simp at h; exact h.1
    | cons z zs =>
      rw [Tp.row_node, ha] at h
      simp only [List.cons_append, List.cons.injEq] at h
      obtain ⟨rfl, rfl⟩ := h
      have h1 := hp.1 z (by rw [ha]; simp)
      have h2 := hx r (by simp)
      rw [ab_asymm h2] at h1; cases h1
theorem mid_eq {x : Nat} : ∀ {a b c d : List Nat}, a ++ x :: b = c ++ x :: d → (a ++ x :: b).Nodup → a = c ∧ b = d
  | [], b, [], d, h, _ => ⟨rfl, by simpa using h⟩
  | [], b, z :: c, d, h, hn => by
    simp only [List.nil_append, List.cons_append, List.cons.injEq] at h
    obtain ⟨rfl, rfl⟩ := h
    simp at hn
  | z :: a, b, [], d, h, hn => by
    simp only [List.nil_append, List.cons_append, List.cons.injEq] at h
    obtain ⟨rfl, _⟩ := h
    simp at hn
  | z :: a, b, y :: c, d, h, hn => by
    simp only [List.cons_append, List.cons.injEq] at h
    obtain ⟨rfl, h⟩ := h
    simp only [List.cons_append, List.nodup_cons] at hn
    obtain ⟨rfl, rfl⟩ := mid_eq h hn.2
    exact ⟨rfl, rfl⟩
theorem hp_one {pri : Nat → Nat} : ∀ {t u : Tp}, Hp pri t → Hp pri u → t.row = u.row → t.row.Nodup → t = u
  | .nil, u, _, _, h, _ => (Tp.row_eq_nil h.symm).symm
  | .node a x b, .nil, _, _, h, _ => by simp [Tp.row] at h
  | .node a x b, .node c y d, h1, h2, h, hn => by
    have e : x = y := by
      rcases Nat.decEq x y with hne | e
      · exfalso
        have hx : x ∈ (Tp.node c y d).row := by rw [← h]; simp [Tp.row]
        have hy : y ∈ (Tp.node a x b).row := by rw [h]; simp [Tp.row]
        simp only [Tp.row, List.mem_append, List.mem_cons] at hx hy
        have g1 : ab pri y x = true := by
          rcases hx with hx | hx | hx
          · exact h2.1 x hx
          · exact absurd hx hne
          · exact h2.2.1 x hx
        have g2 : ab pri x y = true := by
          rcases hy with hy | hy | hy
          · exact h1.1 y hy
          · exact absurd hy.symm hne
          · exact h1.2.1 y hy
        rw [ab_asymm g1] at g2; cases g2
      · exact e
    subst e
    rw [Tp.row_node] at hn h
    rw [Tp.row_node] at h
    obtain ⟨e1, e2⟩ := mid_eq h hn
    rw [List.nodup_append] at hn
    obtain ⟨n1, n2, _⟩ := hn
    rw [List.nodup_cons] at n2
    rw [hp_one h1.2.2.1 h2.2.2.1 e1 n1, hp_one h1.2.2.2 h2.2.2.2 e2 n2.2]

section
variable {w w' W : World} {V S T : Int} {p gb cap m i k x j : Nat} {g : Mg9} {mk : Nat → Nat} {ts : List Tp} {t ta tb : Tp} {on : Bool}
theorem FI.nodeAt (hF : FI V S g mk ts) (hn : nN V S ≤ 560) (h0 : ∀ k, g 0 k = 0) (hi : ts[i]? = some t) (hx : x ∈ t.row) :
    ∃ (us : List Fr) (l r : Tp), t = climb us (.node l x r) ∧ UpOk (vxN V) mk g us (.node l x r) ∧ Loose (vxN V) mk g (.node l x r) ∧ (∀ f ∈ us, 1 ≤ f.x ∧ f.x ≤ nN V S) ∧ us.length + 1 ≤ nN V S ∧ t.root = topOf us x ∧ g t.root 2 = 0 := by
  obtain ⟨a1, a2, a3, a4, a5, a6⟩ := hF.at hi
  obtain ⟨us, l, r, e⟩ := climb_to hx
  have hz : (climb us (.node l x r)).size < 65536 := by rw [← e]; omega
  have hp : ∀ y ∈ (climb us (.node l x r)).row, y ≠ 0 := by rw [← e]; exact fun y hy => (a5 y hy).1
  have hc := climb_up hF.hm (us := us) (t := .node l x r) (by rw [← e]; exact a1.1) hz hp
  have hs := climb_size us (.node l x r)
  rw [← e, Tp.size_node] at hs
  have hr : t.root = topOf us x := by rw [e, climb_root]; rfl
  refine ⟨us, l, r, e, hc.1, hc.2, fun f hf => ?_, by omega, hr, ?_⟩
  · have := a5 f.x (by rw [e]; exact climb_fr hf); omega
  · by_cases h : t.root = 0
    · rw [h]; exact h0 2
    · exact a1.2 h
theorem froot (A : TM w V S T p gb cap m g) (hF : FI V S g mk ts) (hi : ts[i]? = some t) (hx : x ∈ t.row) (hm : m ≤ 980000) {xI : Int} (hxI : xI = (x : Int)) :
    Calls Try.prog 16 #[vTr V S T p, .int .i64 xI] w (Did V S T p gb cap (m + nN V S) g (.int .i64 (t.root : Int)) w) := by
  subst hxI
  have hn := nN_le A.hR
  obtain ⟨us, l, r, e, hu, hl, hus, hul, hr, hg⟩ := hF.nodeAt hn A.z hi hx
  have hb := (hF.at hi).2.2.2.2.1 x hx
  have hc := up_chn hu hb.1 (fun f hf => (hus f hf).2) (by rw [show (Tp.node l x r).root = x from rfl, ← hr]; exact hg)
  have := troot A (x := x) (l0 := x :: us.map Fr.x) hb.2 ⟨rfl, hb.1, hb.2, hc⟩ (by simp; omega) (show m ≤ 990000 by omega)
  rw [List.length_cons, top_last us x 0, ← hr] at this
  exact this
theorem findex (A : TM w V S T p gb cap m g) (hF : FI V S g mk ts) (hi : ts[i]? = some t) (hj : t.row[j]? = some x) (hm : m ≤ 980000) {xI : Int} (hxI : xI = (x : Int)) :
    Calls Try.prog 17 #[vTr V S T p, .int .i64 xI] w (Did V S T p gb cap (m + 3 + 4 * nN V S) g (.int .i64 (j : Int)) w) := by
  subst hxI
  have hn := nN_le A.hR
  have hx := List.mem_of_getElem? hj
  obtain ⟨us, l, r, e, hu, hl, hus, hul, hr, hg⟩ := hF.nodeAt hn A.z hi hx
  obtain ⟨a1, a2, a3, a4, a5, a6⟩ := hF.at hi
  have hb := a5 x hx
  have hc := up_chn hu hb.1 (fun f hf => (hus f hf).2) (by rw [show (Tp.node l x r).root = x from rfl, ← hr]; exact hg)
  have ht := tindex A (x := x) (l := us.map Fr.x) hb.2 hc (by simp; omega) (fun y hy => by obtain ⟨f, hf, rfl⟩ := List.mem_map.1 hy; exact (hus f hf).2) hm
  have hz : (climb us (.node l x r)).size < 65536 := by rw [← e]; omega
  have h1 := up_idx (i := nS (g (g x 3) 6)) hF.hm A.z hu hb.1 (by rw [← e]; exact a4) hz (by rw [← e]; exact fun y hy => (a5 y hy).1)
  have hls : l.size < 65536 := by have := climb_size us (.node l x r); rw [Tp.size_node] at this; omega
  have h2 : nS (g (g x 3) 6) = l.size := by rw [hl.1, hl.2.2.2.2.2.1.sum A.z]; exact (sumT_parts hF.hm l hls).1
  have h3 := climb_at (us := us) (l := l) (r := r) (x := x)
  rw [← e] at h3
  have h4 : idxG g (nS (g (g x 3) 6)) x (us.map Fr.x) = j := by
    rw [show idxG g (nS (g (g x 3) 6)) x (us.map Fr.x) = nS (g (g x 3) 6) + ahead us from h1, h2]
    obtain ⟨q1, q2⟩ := List.getElem?_eq_some_iff.1 h3
    obtain ⟨q3, q4⟩ := List.getElem?_eq_some_iff.1 hj
    exact (List.getElem_inj a4).1 (q2.trans q4.symm)
  rw [h4] at ht
  exact ht
theorem fown (A : TM w V S T p gb cap m g) (hF : FI V S g mk ts) (hi : ts[i]? = some t) (hx : x ∈ t.row) : oS (g x 6) = mk x := by
  obtain ⟨us, l, r, e, hu, hl, _⟩ := hF.nodeAt (nN_le A.hR) A.z hi hx
  have hz : (climb us (.node l x r)).size < 65536 := by have := (hF.at hi).2.2.2.2.2; have := nN_le A.hR; rw [← e]; omega
  rw [hl.2.2.1]
  exact sumT_own hF.hm (by have := climb_size us (.node l x r); omega)
theorem fmarked (A : TM w V S T p gb cap m g) (hF : FI V S g mk ts) (hi : ts[i]? = some t) (hx : x ∈ t.row) (hk : k < 2) (hm : m ≤ 980000) {xI kI : Int} (hxI : xI = (x : Int)) (hkI : kI = (k : Int)) :
    Calls Try.prog 20 #[vTr V S T p, .int .i64 xI, .int .i64 kI] w (Did V S T p gb cap (m + 1) g (.bool (hasB (mk x) k)) w) := by
  subst hxI hkI
  have := tmarked A (x := x) ((hF.at hi).2.2.2.2.1 x hx).2 hk (show m ≤ 1000000 by omega)
  rw [fown A hF hi hx] at this
  exact this
theorem fsize (A : TM w V S T p gb cap m g) (hF : FI V S g mk ts) (hi : ts[i]? = some t) (hm : m ≤ 980000) {xI : Int} (hxI : xI = (t.root : Int)) :
    Calls Try.prog 18 #[vTr V S T p, .int .i64 xI] w (Did V S T p gb cap (m + 1) g (.int .i64 (t.size : Int)) w) := by
  subst hxI
  obtain ⟨a1, a2, a3, a4, a5, a6⟩ := hF.at hi
  have hn := nN_le A.hR
  have := tsize A (x := t.root) (root_le a5) (show m ≤ 1000000 by omega)
  rw [a1.1.sum A.z, (sumT_parts hF.hm t (by omega)).1] at this
  exact this
theorem fverts (A : TM w V S T p gb cap m g) (hF : FI V S g mk ts) (hi : ts[i]? = some t) (hm : m ≤ 980000) {xI : Int} (hxI : xI = (t.root : Int)) :
    Calls Try.prog 19 #[vTr V S T p, .int .i64 xI] w (Did V S T p gb cap (m + 1) g (.int .i64 (cntV (vxN V) t.row : Int)) w) := by
  subst hxI
  obtain ⟨a1, a2, a3, a4, a5, a6⟩ := hF.at hi
  have hn := nN_le A.hR
  have := tverts A (x := t.root) (root_le a5) (show m ≤ 1000000 by omega)
  rw [a1.1.sum A.z, (sumT_parts hF.hm t (by omega)).2.1] at this
  exact this
theorem ffirst (A : TM w V S T p gb cap m g) (hF : FI V S g mk ts) (hi : ts[i]? = some t) (hk : k < 2) (hm : m ≤ 980000) {xI kI : Int} (hxI : xI = (t.root : Int)) (hkI : kI = (k : Int)) :
    Calls Try.prog 21 #[vTr V S T p, .int .i64 xI, .int .i64 kI] w (Did V S T p gb cap (m + 4 * nN V S) g (.int .i64 (firstR mk k t.row : Int)) w) := by
  subst hxI hkI
  obtain ⟨a1, a2, a3, a4, a5, a6⟩ := hF.at hi
  exact tfirst A hF.hm hk a1.1 a6 a5 hm
theorem flist (A : TM w V S T p gb cap m g) (hF : FI V S g mk ts) (hi : ts[i]? = some t) (hm : m ≤ 980000) {xI : Int} (hxI : xI = (t.root : Int)) :
    Calls Try.prog 15 #[vTr V S T p, .int .i64 xI] w (Told V S T p gb cap (m + 2 * nN V S) g t.row w) := by
  subst hxI
  obtain ⟨a1, a2, a3, a4, a5, a6⟩ := hF.at hi
  exact tlist A a1.1 a6 a5 hm
/-- .. of no tree. -/
theorem zroot (A : TM w V S T p gb cap m g) (hm : m ≤ 980000) :
    Calls Try.prog 16 #[vTr V S T p, .int .i64 0] w (Did V S T p gb cap (m + nN V S) g (.int .i64 0) w) :=
  troot A (x := 0) (l0 := []) (Nat.zero_le _) rfl (Nat.zero_le _) (show m ≤ 990000 by omega)
theorem zsize (A : TM w V S T p gb cap m g) (hm : m ≤ 980000) :
    Calls Try.prog 18 #[vTr V S T p, .int .i64 0] w (Did V S T p gb cap (m + 1) g (.int .i64 0) w) := by
  have := tsize A (x := 0) (Nat.zero_le _) (show m ≤ 1000000 by omega)
  rw [A.z] at this; exact this
theorem zverts (A : TM w V S T p gb cap m g) (hm : m ≤ 980000) :
    Calls Try.prog 19 #[vTr V S T p, .int .i64 0] w (Did V S T p gb cap (m + 1) g (.int .i64 0) w) := by
  have := tverts A (x := 0) (Nat.zero_le _) (show m ≤ 1000000 by omega)
  rw [A.z] at this; exact this
theorem zfirst (A : TM w V S T p gb cap m g) (hmk : ∀ x, mk x < 4) (hm : m ≤ 980000) :
    Calls Try.prog 21 #[vTr V S T p, .int .i64 0, .int .i64 0] w (Did V S T p gb cap (m + 4 * nN V S) g (.int .i64 0) w) :=
  tfirst A (t0 := .nil) (k := 0) hmk (by omega) trivial (Nat.zero_le _) (fun y hy => by cases hy) hm
theorem zlist (A : TM w V S T p gb cap m g) (hm : m ≤ 980000) :
    Calls Try.prog 15 #[vTr V S T p, .int .i64 0] w (Told V S T p gb cap (m + 2 * nN V S) g [] w) :=
  tlist A (t0 := .nil) (mk := fun _ => 0) trivial (Nat.zero_le _) (fun y hy => by cases hy) hm
theorem fmerge (A : TM w V S T p gb cap m g) (hF : FI V S g mk ts) (hik : i ≠ k) (ha : ts[i]? = some ta) (hb : ts[k]? = some tb) (hm : m ≤ 960000) {xa xb : Int} (hxa : xa = (ta.root : Int)) (hxb : xb = (tb.root : Int)) :
    Calls Try.prog 24 #[vTr V S T p, .int .i64 xa, .int .i64 xb] w fun e w' => ∃ g' t, e = .returned (.int .i64 ((t.root : Nat) : Int)) ∧ TM w' V S T p gb cap (m + 12 * nN V S + 2) g' ∧ FI V S g' mk (wo i k 0 ts ++ [t]) ∧ t.row = ta.row ++ tb.row ∧ t ≠ .nil ∧ Hp (fun z => g' z 5) t ∧ Only p gb w w' ∧ ∀ y, g' y 5 = g y 5 := by
  subst hxa hxb
  have hp := hF.pair hik ha hb
  obtain ⟨a1, a2, a3, a4, a5, a6⟩ := hF.at ha
  obtain ⟨b1, b2, b3, b4, b5, b6⟩ := hF.at hb
  have hF' := hF.perm hp
  have hnd : (ta.row ++ tb.row).Nodup := by
    have := hF'.nd
    rw [List.flatMap_append, List.nodup_append, flat_two] at this
    exact this.1
  have hz : ta.size + tb.size ≤ nN V S := by
    have := flat_len hF'
    rw [List.flatMap_append, List.length_append, flat_two, List.length_append] at this
    unfold Tp.size; omega
  refine (tmerge A hF.hm a1.1 b1.1 hz hnd a5 b5 (show m ≤ 970000 by omega)).mono ?_
  rintro e w' ⟨g', t, rfl, A', O', hs, hrow, hhp, ho, h5⟩
  have hne : t ≠ .nil := fun e => a3 (Tp.row_eq_nil (by have := congrArg Tp.row e; rw [hrow] at this; simp [Tp.row] at this; exact this.1))
  have hhp' := hhp a2 b2
  refine ⟨g', t, rfl, A', ?_, hrow, hne, hhp'.same h5, O', h5⟩
  refine hF.swap (N := [t]) hp (by rw [flat_two, flat_one, hrow]) ?_ ?_ h5 hF.hm fun _ _ => rfl
  · intro t' ht'
    have : t' = t := by simpa using ht'
    subst this
    exact ⟨hs, hhp', hne⟩
  · intro y hy
    rw [flat_two, ← hrow] at hy
    exact ho y hy
theorem fsplit (A : TM w V S T p gb cap m g) (hF : FI V S g mk ts) (ht : ts[i]? = some t) {k0 : Int} (hk1 : -9223372036854775808 ≤ k0) (hk2 : k0 ≤ 9223372036854775807) (hm : m ≤ 960000) {xa : Int} (hxa : xa = (t.root : Int)) :
    Calls Try.prog 23 #[vTr V S T p, .int .i64 xa, .int .i64 k0] w fun e w' => ∃ g' ta tb, e = .returned (.tuple #[.int .i64 ((ta.root : Nat) : Int), .int .i64 ((tb.root : Nat) : Int)]) ∧ TM w' V S T p gb cap (m + 12 * nN V S + 4) g' ∧ FI V S g' mk (wo i i 0 ts ++ some2 ta tb) ∧ ta.row = t.row.take (min k0.toNat t.row.length) ∧ tb.row = t.row.drop (min k0.toNat t.row.length) ∧ Hp (fun z => g' z 5) ta ∧ Hp (fun z => g' z 5) tb ∧ Stands (vxN V) mk g' ta ∧ Stands (vxN V) mk g' tb ∧ Only p gb w w' ∧ ∀ y, g' y 5 = g y 5 := by
  subst hxa
  have hp : ts.Perm ([t] ++ wo i i 0 ts) := wo_perm1 (Nat.zero_le _) ht
  obtain ⟨a1, a2, a3, a4, a5, a6⟩ := hF.at ht
  refine (tsplit A hF.hm hk1 hk2 a1.1 a6 a4 a5 (show m ≤ 970000 by omega)).mono ?_
  rintro e w' ⟨g', rfl, A', O', hsa, hsb, ho, h5⟩
  have hrows := splitZ_rows k0 t
  have hhp := splitZ_hp (pri := fun z => g z 5) (fs := wayT k0 t) (by rw [wayT_plug]; exact a2)
  refine ⟨g', _, _, rfl, A', ?_, hrows.1, hrows.2, hhp.1.same h5, hhp.2.same h5, hsa, hsb, O', h5⟩
  refine hF.swap (L := [t]) hp ?_ ?_ ?_ h5 hF.hm fun _ _ => rfl
  · rw [some2_row, flat_one, hrows.1, hrows.2, List.take_append_drop]
  · intro t' ht'
    unfold some2 at ht'
    rcases List.mem_append.1 ht' with ht' | ht'
    · split at ht'
      · rename_i hl
        have : t' = (splitZ (wayT k0 t)).1 := by simpa using ht'
        subst this
        exact ⟨hsa, hhp.1, fun e => by rw [e] at hl; simp [Tp.row] at hl⟩
      · simp at ht'
    · split at ht'
      · rename_i hl
        have : t' = (splitZ (wayT k0 t)).2 := by simpa using ht'
        subst this
        exact ⟨hsb, hhp.2, fun e => by rw [e] at hl; simp [Tp.row] at hl⟩
      · simp at ht'
  · intro y hy
    rw [flat_one] at hy
    exact ho y hy
theorem fmark (A : TM w V S T p gb cap m g) (hF : FI V S g mk ts) {x : Nat} {on : Bool} (h1 : x ≠ 0) (h2 : x ≤ nN V S) (hk : k < 2) (hm : m ≤ 960000) {xa ka : Int} (hxa : xa = (x : Int)) (hka : ka = (k : Int)) :
    Calls Try.prog 25 #[vTr V S T p, .int .i64 xa, .int .i64 ka, .bool on] w fun e w' => ∃ g', e = .returned (.tuple #[]) ∧ TM w' V S T p gb cap (m + 7 + 7 * nN V S) g' ∧ (∀ y, g' y 5 = g y 5) ∧ FI V S g' (mkSet mk x k on) ts ∧ Only p gb w w' := by
  subst hxa hka
  have hn := nN_le (V := V) (S := S) (T := T) A.hR
  have h0 : ∀ k, g 0 k = 0 := TM.z A
  obtain ⟨i, t, us, l, r, hi, e, hu, hl, hus, hul, hr, hg⟩ := hF.node hn h0 h1 h2
  obtain ⟨a1, a2, a3, a4, a5, a6⟩ := hF.at hi
  have hm' := mkSet_lt (mk := mk) hF.hm (x := x) (on := on) hk
  have hz : (climb us (.node l x r)).size < 65536 := by rw [← e]; omega
  have hnd : (climb us (.node l x r)).row.Nodup := by rw [← e]; exact a4
  have hnd' := climb_nodup hnd
  have hz' : (Tp.node l x r).size < 65536 := by have := climb_size us (.node l x r); omega
  have own : oS (g x 6) = mk x := by rw [hl.2.2.1]; exact sumT_own hF.hm hz'
  have hsx : mkSet mk x k on x = setB (mk x) k on := if_pos rfl
  obtain ⟨g1, hg1⟩ : ∃ g1, reckG (vxN V) g x (setB (oS (g x 6)) k on) = g1 := ⟨_, rfl⟩
  have hg1' : reckG (vxN V) g x (mkSet mk x k on x) = g1 := by rw [hsx, ← own]; exact hg1
  have hoth : ∀ y j, (y ≠ x ∨ j ≠ 6) → g1 y j = g y j := fun y j hy => by
    rw [← hg1]
    rcases hy with hy | hy
    · exact reckG_other _ _ _ _ hy
    · exact reckG_field _ _ _ _ _ hy
  have hmo : ∀ y, y ≠ x → mkSet mk x k on y = mk y := fun y hy => if_neg hy
  have hu1 : UpOk (vxN V) (mkSet mk x k on) g1 us (.node l x r) := hu.turn (x0 := x) (by simp [Tp.row]) hnd hmo hoth
  have hl1 : Loose (vxN V) (mkSet mk x k on) g1 (.node l x r) := by
    have hnd2 := hnd'
    rw [Tp.row_node, List.nodup_append] at hnd2
    obtain ⟨nl, nr, nd⟩ := hnd2
    rw [List.nodup_cons] at nr
    have lx : ∀ y ∈ l.row, y ≠ x := fun y hy => nd y hy x (by simp)
    have rx : ∀ y ∈ r.row, y ≠ x := fun y hy e => nr.1 (e ▸ hy)
    rw [← hg1']
    exact reck_loose hm' h0 hnd' hz' hl.1 hl.2.1 hl.2.2.2.1 hl.2.2.2.2.1 (hl.2.2.2.2.2.1.congr (fun y hy => ⟨hmo y (lx y hy), rfl, rfl, rfl⟩) nl fun _ _ _ => rfl) (hl.2.2.2.2.2.2.congr (fun y hy => ⟨hmo y (rx y hy), rfl, rfl, rfl⟩) nr.2 fun _ _ _ => rfl)
  have h01 : ∀ k, g1 0 k = 0 := fun k => by rw [hoth 0 k (.inl (Ne.symm h1))]; exact h0 k
  have hc : Chn g1 (nN V S) (g1 x 2) (us.map Fr.x) := up_chn hu1 h1 (fun f hf => (hus f hf).2) (by rw [show (Tp.node l x r).root = x from rfl, ← hr, hoth _ _ (.inr (by decide))]; exact hg)
  have hrk : RecksOk V S (us.map Fr.x) := by
    clear hc hu1 hu e hr hul hz hnd
    induction us with
    | nil => trivial
    | cons f us ih => exact ⟨⟨(hus f (List.mem_cons_self ..)).1, (hus f (List.mem_cons_self ..)).2⟩, ih fun f' hf' => hus f' (List.mem_cons_of_mem _ hf')⟩
  refine (tmark (x := x) A hk ⟨by omega, h2⟩ hg1 hc (by rw [List.length_map]; show _ ≤ nN V S; omega) hrk (show m ≤ 980000 by omega)).mono ?_
  rintro e' w' ⟨rfl, A', O'⟩
  have h5 : ∀ y, recks (vxN V) g1 (us.map Fr.x) y 5 = g y 5 := fun y => by rw [recks_other (.inr (by decide)), hoth _ _ (.inr (by decide))]
  refine ⟨_, rfl, A', h5, ?_, O'⟩
  have hp : ts.Perm ([t] ++ wo i i 0 ts) := wo_perm1 (Nat.zero_le _) hi
  have hx : x ∈ t.row := by rw [e]; exact climb_mem (by simp [Tp.row])
  have hL := recks_up hm' hu1 hl1 h1 h01 hnd hz
  rw [← e] at hL
  refine (hF.swap (N := [t]) (mk' := mkSet mk x k on) (g' := recks (vxN V) g1 (us.map Fr.x)) hp (List.Perm.refl _) ?_ ?_ h5 hm' ?_).perm ((List.perm_append_comm).trans hp.symm)
  · intro t' ht'
    have : t' = t := by simpa using ht'
    subst this
    exact ⟨⟨hL, fun h => by rw [recks_other (.inr (by decide)), hoth _ _ (.inr (by decide))]; exact hg⟩, a2, a3⟩
  · intro y hy j
    rw [flat_one] at hy
    have hyx : y ≠ x := fun e => hy (by rw [e]; exact hx)
    have hyu : y ∉ us.map Fr.x := fun hyu => by
      obtain ⟨f, hf, rfl⟩ := List.mem_map.1 hyu
      exact hy (by rw [e]; exact climb_fr hf)
    rw [recks_other (.inl hyu), hoth _ _ (.inl hyx)]
  · intro y hy
    rw [flat_one] at hy
    exact hmo y fun e => hy (by rw [e]; exact hx)
end

end Go.Proofs.Ytgafnomfdnbblaa

/- The law's fixed answer. Printed by wip/tools/trqn.py. -/
namespace Go.Proofs.Ytgafnomfdnbblaa
open Go.RowKit

set_option maxRecDepth 100000

/-- A play's variable and its trees, in the law's memory. -/
structure AK (w0 W : World) (q : Nat) (V S T : Int) (p gb cap pb cp mb cm vb cv : Nat) (vr : Value) (m : Nat) (g : Mg9) : Prop where
  pf : PF W q V S T p (nN V S) pb cp mb cm vb cv vr
  tm : TM W V S T p gb cap m g
  be : Below w0.heap.size w0 W
  kp : w0.heap.size ≤ p
  kg : w0.heap.size ≤ gb
section
variable {w w' W w0 : World} {V S T : Int} {q p gb cap m m' pb mb vb cp cm cv n x k : Nat} {g g' : Mg9} {mk : Nat → Nat} {vr : Value} {t ta tb : Tp}
theorem AK.below (h : AK w0 w q V S T p gb cap pb cp mb cm vb cv vr m g) (hb : Below w.heap.size w w') : AK w0 w' q V S T p gb cap pb cp mb cm vb cv vr m g := ⟨h.pf.below hb, h.tm.below hb, h.be.trans (hb.mono h.be.size), h.kp, h.kg⟩
theorem AK.drew (h : AK w0 w q V S T p gb cap pb cp mb cm vb cv vr m g) : AK w0 w.drew q V S T p gb cap pb cp mb cm vb cv vr m g := h.below (Below.refl _ _).drew
theorem AK.only (h : AK w0 w q V S T p gb cap pb cp mb cm vb cv vr m g) (A : TM w' V S T p gb cap m' g') (ho : Only p gb w w') : AK w0 w' q V S T p gb cap pb cp mb cm vb cv vr m' g' := ⟨h.pf.only h.tm ho, A, Only.below h.be ho h.be.size h.kp h.kg, h.kp, h.kg⟩

def mk0 : Nat → Nat := fun _ => 0
def mk1 : Nat → Nat := mkSet mk0 3 1 true
theorem n6 : nN 3 0 = 6 := by decide
def nil5 (g : Mg9) : Prop := ∀ x, 1 ≤ x → x ≤ 6 → g x 5 = 0
theorem ab5 (h : nil5 g) {x y : Nat} (h1 : 1 ≤ x) (h2 : x < y) (h3 : y ≤ 6) : ab (fun z => g z 5) x y = true := by
  rw [ab_yes]; right; exact ⟨by show g x 5 = g y 5; rw [h x h1 (by omega), h y (by omega) h3], h2⟩
theorem aw1 (A : TM w 3 0 1 p gb cap m g) (F : FI 3 0 g mk0 (sing 6)) (hp : nil5 g) (hm : m ≤ 1000) :
    Calls Try.prog 24 #[vTr 3 0 1 p, .int .i64 1, .int .i64 2] w fun e w' => ∃ g' t, e = .returned (.int .i64 1) ∧ TM w' 3 0 1 p gb cap (m + 100) g' ∧ FI 3 0 g' mk0 [sgl 3, sgl 4, sgl 5, sgl 6, t] ∧ t.row = [1, 2] ∧ t.root = 1 ∧ nil5 g' ∧ Only p gb w w' := by
  refine (fmerge A F (i := 0) (k := 1) (ta := sgl 1) (tb := sgl 2) (by decide) rfl rfl (by omega) (xa := 1) (xb := 2) rfl rfl).mono ?_
  rintro e w' ⟨g', t, rfl, A', F', hr, hne, hh, O, h5⟩
  have hp' : nil5 g' := fun x h1 h2 => by rw [h5]; exact hp x h1 h2
  have hr' : t.row = 1 :: [2] := hr
  have h1 := hp_root hh hr' (fun y hy => by simp at hy; subst hy; exact ab5 hp' (by omega) (by omega) (by omega))
  exact ⟨g', t, by rw [h1]; rfl, A'.more (by rw [n6]; omega), F', hr', h1, hp', O⟩
theorem aw2 (A : TM w 3 0 1 p gb cap m g) (F : FI 3 0 g mk0 [sgl 3, sgl 4, sgl 5, sgl 6, t]) (hr : t.row = [1, 2]) (h0 : t.root = 1) (hp : nil5 g) (hm : m ≤ 1000) :
    Calls Try.prog 24 #[vTr 3 0 1 p, .int .i64 1, .int .i64 3] w fun e w' => ∃ g' u, e = .returned (.int .i64 1) ∧ TM w' 3 0 1 p gb cap (m + 100) g' ∧ FI 3 0 g' mk0 [sgl 4, sgl 5, sgl 6, u] ∧ u.row = [1, 2, 3] ∧ u.root = 1 ∧ nil5 g' ∧ Only p gb w w' := by
  refine (fmerge A F (i := 4) (k := 0) (ta := t) (tb := sgl 3) (by decide) rfl rfl (by omega) (xa := 1) (xb := 3) (by rw [h0]; rfl) rfl).mono ?_
  rintro e w' ⟨g', u, rfl, A', F', hru, hne, hh, O, h5⟩
  have hp' : nil5 g' := fun x h1 h2 => by rw [h5]; exact hp x h1 h2
  have hr' : u.row = 1 :: [2, 3] := by rw [hru, hr]; rfl
  have h1 := hp_root hh hr' (fun y hy => by
    simp at hy
    rcases hy with rfl | rfl
    · exact ab5 hp' (by omega) (by omega) (by omega)
    · exact ab5 hp' (by omega) (by omega) (by omega))
  exact ⟨g', u, by rw [h1]; rfl, A'.more (by rw [n6]; omega), F', hr', h1, hp', O⟩
theorem aw3 (A : TM w 3 0 1 p gb cap m g) (F : FI 3 0 g mk0 [sgl 4, sgl 5, sgl 6, t]) (hp : nil5 g) (hm : m ≤ 1000) :
    Calls Try.prog 25 #[vTr 3 0 1 p, .int .i64 3, .int .i64 1, .bool true] w fun e w' => ∃ g', e = .returned (.tuple #[]) ∧ TM w' 3 0 1 p gb cap (m + 100) g' ∧ FI 3 0 g' mk1 [sgl 4, sgl 5, sgl 6, t] ∧ nil5 g' ∧ Only p gb w w' := by
  refine (fmark A F (x := 3) (k := 1) (on := true) (by decide) (by decide) (by decide) (by omega) (xa := 3) (ka := 1) rfl rfl).mono ?_
  rintro e w' ⟨g', rfl, A', h5, F', O⟩
  exact ⟨g', rfl, A'.more (by rw [n6]; omega), F', fun x h1 h2 => by rw [h5]; exact hp x h1 h2, O⟩
theorem aw4 (A : TM w 3 0 1 p gb cap m g) (F : FI 3 0 g mk1 [sgl 4, sgl 5, sgl 6, t]) (hr : t.row = [1, 2, 3]) (h0 : t.root = 1) (hp : nil5 g) (hm : m ≤ 1000) :
    Calls Try.prog 23 #[vTr 3 0 1 p, .int .i64 1, .int .i64 2] w fun e w' => ∃ g' ta tb, e = .returned (.tuple #[.int .i64 1, .int .i64 3]) ∧ TM w' 3 0 1 p gb cap (m + 100) g' ∧ FI 3 0 g' mk1 [sgl 4, sgl 5, sgl 6, ta, tb] ∧ ta.row = [1, 2] ∧ tb.row = [3] ∧ ta.root = 1 ∧ tb.root = 3 ∧ Only p gb w w' := by
  refine (fsplit A F (i := 3) (t := t) rfl (k0 := 2) (by omega) (by omega) (by omega) (xa := 1) (by rw [h0]; rfl)).mono ?_
  rintro e w' ⟨g', ta, tb, rfl, A', F', ra, rb, ha, hb, _, _, O, h5⟩
  have hp' : nil5 g' := fun x h1 h2 => by rw [h5]; exact hp x h1 h2
  have ra' : ta.row = 1 :: [2] := by rw [ra, hr]; rfl
  have rb' : tb.row = 3 :: [] := by rw [rb, hr]; rfl
  have h1 := hp_root ha ra' (fun y hy => by simp at hy; subst hy; exact ab5 hp' (by omega) (by omega) (by omega))
  have h2 := hp_root hb rb' (fun y hy => by simp at hy)
  have hs : some2 ta tb = [ta, tb] := by unfold some2; rw [ra', rb']; rfl
  rw [hs] at F'
  exact ⟨g', ta, tb, by rw [h1, h2]; rfl, A'.more (by rw [n6]; omega), F', ra', rb', h1, h2, O⟩
section
variable (A : TM w 3 0 1 p gb cap m g) (F : FI 3 0 g mk1 [sgl 4, sgl 5, sgl 6, ta, tb]) (ra : ta.row = [1, 2]) (rb : tb.row = [3]) (ha : ta.root = 1) (hb : tb.root = 3) (hm : m ≤ 2000)
theorem Did.more {v : Value} {e : Ending} (h : Did V S T p gb cap m g v w e w') (hm : m ≤ m') : Did V S T p gb cap m' g v w e w' := ⟨h.1, h.2.1.more hm, h.2.2⟩
include A F ra ha hm
theorem aw5 : Calls Try.prog 18 #[vTr 3 0 1 p, .int .i64 1] w (Did 3 0 1 p gb cap (m + 50) g (.int .i64 2) w) := by
  have := fsize A F (i := 3) (t := ta) rfl (show m ≤ 980000 by omega) (xI := 1) (by rw [ha]; rfl)
  rw [show ta.size = 2 by unfold Tp.size; rw [ra]; rfl] at this
  exact this.mono fun e w' h => h.more (by omega)
omit ha in
theorem aw7 : Calls Try.prog 17 #[vTr 3 0 1 p, .int .i64 2] w (Did 3 0 1 p gb cap (m + 50) g (.int .i64 1) w) :=
  (findex A F (i := 3) (t := ta) (x := 2) (j := 1) rfl (by rw [ra]; rfl) (by omega) rfl).mono fun e w' h => h.more (by rw [n6]; omega)
theorem aw8 : Calls Try.prog 16 #[vTr 3 0 1 p, .int .i64 2] w (Did 3 0 1 p gb cap (m + 50) g (.int .i64 1) w) := by
  have := froot A F (i := 3) (t := ta) (x := 2) rfl (by rw [ra]; decide) (show m ≤ 980000 by omega) (xI := 2) rfl
  rw [ha] at this
  exact this.mono fun e w' h => h.more (by rw [n6]; omega)
theorem aw10 : Calls Try.prog 21 #[vTr 3 0 1 p, .int .i64 1, .int .i64 1] w (Did 3 0 1 p gb cap (m + 50) g (.int .i64 0) w) := by
  have := ffirst A F (i := 3) (t := ta) (k := 1) rfl (by omega) (show m ≤ 980000 by omega) (xI := 1) (kI := 1) (by rw [ha]; rfl) rfl
  rw [ra, show firstR mk1 1 [1, 2] = 0 by decide] at this
  exact this.mono fun e w' h => h.more (by rw [n6]; omega)
theorem aw12 : Calls Try.prog 15 #[vTr 3 0 1 p, .int .i64 1] w fun e w' => ∃ a c, e = .returned (.slice a 2 c) ∧ TM w' 3 0 1 p gb cap (m + 50) g ∧ Only p gb w w' := by
  refine (flist A F (i := 3) (t := ta) rfl (show m ≤ 980000 by omega) (xI := 1) (by rw [ha]; rfl)).mono ?_
  rintro e w' ⟨v, rfl, hl, _, A', O⟩
  obtain ⟨a, c, rfl, _⟩ := hl.shape
  rw [ra]
  exact ⟨a, c, rfl, A'.more (by rw [n6]; omega), O⟩
omit ra ha
include rb hb
theorem aw6 : Calls Try.prog 19 #[vTr 3 0 1 p, .int .i64 3] w (Did 3 0 1 p gb cap (m + 50) g (.int .i64 1) w) := by
  have := fverts A F (i := 4) (t := tb) rfl (show m ≤ 980000 by omega) (xI := 3) (by rw [hb]; rfl)
  rw [rb, show cntV (vxN 3) [3] = 1 by decide] at this
  exact this.mono fun e w' h => h.more (by omega)
theorem aw9 : Calls Try.prog 21 #[vTr 3 0 1 p, .int .i64 3, .int .i64 1] w (Did 3 0 1 p gb cap (m + 50) g (.int .i64 3) w) := by
  have := ffirst A F (i := 4) (t := tb) (k := 1) rfl (by omega) (show m ≤ 980000 by omega) (xI := 3) (kI := 1) (by rw [hb]; rfl) rfl
  rw [rb, show firstR mk1 1 [3] = 3 by decide] at this
  exact this.mono fun e w' h => h.more (by rw [n6]; omega)
omit hb
theorem aw11 : Calls Try.prog 20 #[vTr 3 0 1 p, .int .i64 3, .int .i64 1] w (Did 3 0 1 p gb cap (m + 50) g (.bool true) w) := by
  have := fmarked A F (i := 4) (t := tb) (x := 3) (k := 1) rfl (by rw [rb]; decide) (by omega) (show m ≤ 980000 by omega) (xI := 3) (kI := 1) rfl rfl
  rw [show hasB (mk1 3) 1 = true by decide] at this
  exact this.mono fun e w' h => h.more (by omega)
end
end

set_option maxHeartbeats 8000000 in
theorem awake_any (w : World) : Calls Try.prog 9 #[] w fun e w' => e = .returned (.bool true) ∧ Below w.heap.size w w' := by
  have hR : Rt 3 0 1 := ⟨by omega, by omega, by omega, by omega, by omega, by omega⟩
  go_enter Try.func9, Try.ntmps9
  go_wp2_with fail
  refine (begun_any (V := 3) (S := 0) (T := 1) (da := none) (dl := 0) (dc := 0) (vo := .slice none 0 0) (f := fun _ => 0) hR (fun h => absurd h (by omega)) (by omega)).mono ?_
  rintro e w1 ⟨q, p, gb, cap, pb, mb, vb, cp, cm, cv, g, vr, vs, rfl, hK, hP, hF, hb, hpri⟩
  have HK : Hid (AK w w1 q 3 0 1 p gb cap pb cp mb cm vb cv vr 60 g) := Lib.hid ⟨hP.blk, by have := hP.tm; rw [n6] at this; exact this, hb, hK.p, hK.g⟩
  have HF : Hid (FI 3 0 g mk0 (sing 6)) := Lib.hid (by have := hF; rw [n6] at this; exact this)
  have H5 : Hid (nil5 g) := Lib.hid (fun x h1 h2 => by rw [hpri x h1 (by rw [n6]; exact h2)]; rfl)
  clear hK hP hF hb hpri
  obtain ⟨y0, y1, y2, y3, y4, y5, y6, y7, y8, y9, y10, y11, y12, y13⟩ := HK.out.pf.cells
  have qlt := HK.out.pf.lt
  go_upto_region 4 with fail
  have HKd := Lib.hid HK.out.drew
  have hpf := pf_rule q 3 0 1 p (nN 3 0) pb cp mb cm vb cv vr
  have HPd := Lib.hid HKd.out.pf
  clear y0 y1 y2 y3 y4 y5 y6 y7 y8 y9 y10 y11 y12 y13 qlt HK
  obtain ⟨y0, y1, y2, y3, y4, y5, y6, y7, y8, y9, y10, y11, y12, y13⟩ := HPd.out.cells
  have qlt := HPd.out.lt
  go_region_held3 (fun W => PF W q 3 0 1 p (nN 3 0) pb cp mb cm vb cv vr) (first | (with_reducible assumption) | (with_reducible exact HK2.out.pf) | (with_reducible exact HK1.out.pf) | (with_reducible exact HPd.out))
    (first
      | (go_at_call 24; ((with_reducible refine (aw1 HKd.out.tm HF.out H5.out (by omega)).mono ?_); rintro e w2 ⟨g1, t1, rfl, A1, F1, r1, k1, n1, O1⟩; have HK1 := Lib.hid (HKd.out.only A1 O1); have HF1 := Lib.hid F1; have R1 := Lib.hid r1; have K1 := Lib.hid k1; have N1 := Lib.hid n1))
      | (go_at_call 24; ((with_reducible refine (aw2 HK1.out.tm HF1.out R1.out K1.out N1.out (by omega)).mono ?_); rintro e w3 ⟨g2, t2, rfl, A2, F2, r2, k2, n2, O2⟩; have HK2 := Lib.hid (HK1.out.only A2 O2); have HF2 := Lib.hid F2; have R2 := Lib.hid r2; have K2 := Lib.hid k2; have N2 := Lib.hid n2)))
  clear y0 y1 y2 y3 y4 y5 y6 y7 y8 y9 y10 y11 y12 y13 qlt A1 F1 r1 k1 n1 O1 A2 F2 r2 k2 n2 O2 HKd HPd HF H5 HK1 HF1 R1 K1 N1
  obtain ⟨y0, y1, y2, y3, y4, y5, y6, y7, y8, y9, y10, y11, y12, y13⟩ := HK2.out.pf.cells
  have qlt := HK2.out.pf.lt
  go_wp2_with fail
  refine (aw3 HK2.out.tm HF2.out N2.out (by omega)).mono ?_
  rintro e w4 ⟨g3, rfl, A3, F3, n3, O3⟩
  have HK3 := Lib.hid (HK2.out.only A3 O3)
  have HF3 := Lib.hid F3
  have N3 := Lib.hid n3
  clear y0 y1 y2 y3 y4 y5 y6 y7 y8 y9 y10 y11 y12 y13 qlt A3 F3 n3 O3 HK2 HF2 N2
  obtain ⟨y0, y1, y2, y3, y4, y5, y6, y7, y8, y9, y10, y11, y12, y13⟩ := HK3.out.pf.cells
  have qlt := HK3.out.pf.lt
  go_wp2_with fail
  refine (aw4 HK3.out.tm HF3.out R2.out K2.out N3.out (by omega)).mono ?_
  rintro e w5 ⟨g4, ta, tb, rfl, A4, F4, ra, rb, ka, kb, O4⟩
  have HK4 := Lib.hid (HK3.out.only A4 O4)
  have HF := Lib.hid F4
  have RA := Lib.hid ra
  have RB := Lib.hid rb
  have KA := Lib.hid ka
  have KB := Lib.hid kb
  clear y0 y1 y2 y3 y4 y5 y6 y7 y8 y9 y10 y11 y12 y13 qlt A4 F4 ra rb ka kb O4 HK3 HF3 N3 R2 K2
  obtain ⟨y0, y1, y2, y3, y4, y5, y6, y7, y8, y9, y10, y11, y12, y13⟩ := HK4.out.pf.cells
  have qlt := HK4.out.pf.lt
  go_wp2_with fail
  refine (aw5 HK4.out.tm HF.out RA.out KA.out (by omega)).mono ?_
  rintro e w9 ⟨rfl, A9, O9⟩
  have HK5 := Lib.hid (HK4.out.only A9 O9)
  clear y0 y1 y2 y3 y4 y5 y6 y7 y8 y9 y10 y11 y12 y13 qlt A9 O9 HK4
  obtain ⟨y0, y1, y2, y3, y4, y5, y6, y7, y8, y9, y10, y11, y12, y13⟩ := HK5.out.pf.cells
  have qlt := HK5.out.pf.lt
  go_wp2_with fail
  refine (aw6 HK5.out.tm HF.out RB.out KB.out (by omega)).mono ?_
  rintro e w9 ⟨rfl, A9, O9⟩
  have HK6 := Lib.hid (HK5.out.only A9 O9)
  clear y0 y1 y2 y3 y4 y5 y6 y7 y8 y9 y10 y11 y12 y13 qlt A9 O9 HK5
  obtain ⟨y0, y1, y2, y3, y4, y5, y6, y7, y8, y9, y10, y11, y12, y13⟩ := HK6.out.pf.cells
  have qlt := HK6.out.pf.lt
  go_wp2_with fail
  refine (aw7 HK6.out.tm HF.out RA.out (by omega)).mono ?_
  rintro e w9 ⟨rfl, A9, O9⟩
  have HK7 := Lib.hid (HK6.out.only A9 O9)
  clear y0 y1 y2 y3 y4 y5 y6 y7 y8 y9 y10 y11 y12 y13 qlt A9 O9 HK6
  obtain ⟨y0, y1, y2, y3, y4, y5, y6, y7, y8, y9, y10, y11, y12, y13⟩ := HK7.out.pf.cells
  have qlt := HK7.out.pf.lt
  go_wp2_with fail
  refine (aw8 HK7.out.tm HF.out RA.out KA.out (by omega)).mono ?_
  rintro e w9 ⟨rfl, A9, O9⟩
  have HK8 := Lib.hid (HK7.out.only A9 O9)
  clear y0 y1 y2 y3 y4 y5 y6 y7 y8 y9 y10 y11 y12 y13 qlt A9 O9 HK7
  obtain ⟨y0, y1, y2, y3, y4, y5, y6, y7, y8, y9, y10, y11, y12, y13⟩ := HK8.out.pf.cells
  have qlt := HK8.out.pf.lt
  go_wp2_with fail
  refine (aw9 HK8.out.tm HF.out RB.out KB.out (by omega)).mono ?_
  rintro e w9 ⟨rfl, A9, O9⟩
  have HK9 := Lib.hid (HK8.out.only A9 O9)
  clear y0 y1 y2 y3 y4 y5 y6 y7 y8 y9 y10 y11 y12 y13 qlt A9 O9 HK8
  obtain ⟨y0, y1, y2, y3, y4, y5, y6, y7, y8, y9, y10, y11, y12, y13⟩ := HK9.out.pf.cells
  have qlt := HK9.out.pf.lt
  go_wp2_with fail
  refine (aw10 HK9.out.tm HF.out RA.out KA.out (by omega)).mono ?_
  rintro e w9 ⟨rfl, A9, O9⟩
  have HK10 := Lib.hid (HK9.out.only A9 O9)
  clear y0 y1 y2 y3 y4 y5 y6 y7 y8 y9 y10 y11 y12 y13 qlt A9 O9 HK9
  obtain ⟨y0, y1, y2, y3, y4, y5, y6, y7, y8, y9, y10, y11, y12, y13⟩ := HK10.out.pf.cells
  have qlt := HK10.out.pf.lt
  go_wp2_with fail
  refine (aw11 HK10.out.tm HF.out RB.out (by omega)).mono ?_
  rintro e w9 ⟨rfl, A9, O9⟩
  have HK11 := Lib.hid (HK10.out.only A9 O9)
  clear y0 y1 y2 y3 y4 y5 y6 y7 y8 y9 y10 y11 y12 y13 qlt A9 O9 HK10
  obtain ⟨y0, y1, y2, y3, y4, y5, y6, y7, y8, y9, y10, y11, y12, y13⟩ := HK11.out.pf.cells
  have qlt := HK11.out.pf.lt
  go_wp2_with fail
  refine (aw12 HK11.out.tm HF.out RA.out KA.out (by omega)).mono ?_
  rintro e w9 ⟨al, cl, rfl, A9, O9⟩
  have HK12 := Lib.hid (HK11.out.only A9 O9)
  clear y0 y1 y2 y3 y4 y5 y6 y7 y8 y9 y10 y11 y12 y13 qlt A9 O9 HK11
  go_wp2_with fail
  go_ret
  exact ⟨rfl, HK12.out.be⟩

end Go.Proofs.Ytgafnomfdnbblaa

/- A case that came in, opened; the law's right. Printed by wip/tools/trqo.py. -/
namespace Go.Proofs.Ytgafnomfdnbblaa
open Go.RowKit Go.ChangeShapes Go.WideShapes Go.Deep Go.Joins

set_option maxRecDepth 100000

section
variable {H : Type} {enc : TypeId × Value → H} {P : Program} {w : World} {base : Nat} {spare : Nat → Bool} {held : Bool}
theorem open_fieldsN {t e : TypeId} {fs : Array Field} {fuel : Nat} {cs : List Value} {x : DataW H × List MemPlace} (ht : P.underlying t = some (.slice e)) (he : P.underlying e = some (.struct fs))
    (hone : oneCellFields P fs = true) (hC : P.cellsOf e = fs.size) (h : DataW.trod enc P w base spare held fuel t cs = some x) :
    (cs = [.slice none 0 0] ∧ x = (.nil, [])) ∨
    ∃ (a : Addr) (len cap m : Nat) (D : Nat → DataW H) (Pl : Nat → List MemPlace), cs = [.slice (some a) len cap] ∧ base ≤ a.block ∧ len ≤ cap ∧ cap ≤ maxLen ∧ m = (if spare a.block then cap else len) ∧
      x = (.slice ((List.range len).map D) ((List.range (m - len)).map fun j => D (len + j)), MemPlace.row a (m * fs.size) ++ (List.range m).flatMap Pl) ∧
      ∀ i, i < m → ∃ (ys : List (DataW H × List MemPlace)) (n : Nat), D i = .agg (ys.map (·.1)) ∧ Pl i = ys.flatMap (·.2) ∧ ys.length = fs.size ∧
        ∀ (j : Nat) (f : Field), fs[j]? = some f → ∃ (v : Value) (y : DataW H × List MemPlace), w.cell? (a.add (i * fs.size + j)) = some v ∧ ys[j]? = some y ∧ DataW.trod enc P w base spare held n f.type [v] = some y := by
  rcases open_slice ht h with h0 | ⟨a, len, cap, m, n, D, Pl, hcs, hb, hl, hm, hmm, hx, hi⟩
  · exact .inl h0
  · refine .inr ⟨a, len, cap, m, D, Pl, hcs, hb, hl, hm, hmm, by rw [hC] at hx; exact hx, fun i him => ?_⟩
    obtain ⟨cs', hc, ht'⟩ := hi i him
    rw [hC] at hc
    obtain ⟨ys, n', hn', hy, hlen, hyl, hf⟩ := DataW.trod_struct he ht'
    obtain ⟨_, hcl, hat⟩ := World.cells?_some hc
    simp only [Prod.mk.injEq] at hy
    refine ⟨ys, n', hy.1, hy.2, hyl, fun j f hj => ?_⟩
    obtain ⟨ho, hk⟩ := hone_of hone j f hj
    have hjl : j < fs.size := (Array.getElem?_eq_some_iff.1 hj).1
    have hcell := hat j hjl
    have hv : cs'[j]? = some (cs'[j]'(by omega)) := List.getElem?_eq_getElem (by omega)
    have h1 := hf j f hj
    rw [ho, hk] at h1
    have hone' : (cs'.drop j).take 1 = [cs'[j]'(by omega)] := by
      rw [List.drop_eq_getElem_cons (by omega)]
      rfl
    rw [hone'] at h1
    have hys : ys[j]? = some (ys[j]'(by omega)) := List.getElem?_eq_getElem (by omega)
    refine ⟨_, _, ?_, hys, h1.trans hys⟩
    rw [← Go.Deep.add_add, hcell, hv]
end


/-- One call in memory. -/
def Op5At (w : World) (y : Addr) (k : Nat) (o : Op5) : Prop :=
    w.cell? (y.add (k * 5 + 0)) = some (.int .i64 o.kd) ∧ w.cell? (y.add (k * 5 + 1)) = some (.int .i64 o.a) ∧
    w.cell? (y.add (k * 5 + 2)) = some (.int .i64 o.b) ∧ w.cell? (y.add (k * 5 + 3)) = some (.int .i64 o.k) ∧ w.cell? (y.add (k * 5 + 4)) = some (.bool o.on) ∧ o.fit
def zOp5 : Op5 := ⟨0, 0, 0, 0, false⟩
theorem open_op5 {H : Type} {enc : TypeId × Value → H} {w : World} {base fuel : Nat} {held : Bool} {v : Value} {x : DataW H × List MemPlace}
    (h : DataW.trod enc Try.prog w base (fun _ => true) held fuel 25 [v] = some x) : ∃ a len cap q, v = .slice a len cap ∧ IsOp5 w a len q := by
  rcases open_fieldsN Try.underlying25 Try.underlying33 (by kernel_rfl) (by kernel_rfl) h with ⟨hcs, _⟩ | ⟨y, l, c, m, D, Pl, hcs, _, hl, _, hm, _, hi⟩
  · simp at hcs
    subst hcs
    exact ⟨none, 0, 0, fun _ => zOp5, rfl, fun h => absurd h (Nat.lt_irrefl _)⟩
  · simp at hcs
    subst hcs
    obtain ⟨b, off, spot⟩ := y
    simp at hm
    have key : ∀ k, k < l → ∃ o : Op5, Op5At w ⟨b, off, spot⟩ k o := by
      intro k hk
      obtain ⟨ys, n, _, _, _, hf⟩ := hi k (by omega)
      obtain ⟨v0, y0, c0, _, t0⟩ := hf 0 _ rfl
      obtain ⟨v1, y1, c1, _, t1⟩ := hf 1 _ rfl
      obtain ⟨v2, y2, c2, _, t2⟩ := hf 2 _ rfl
      obtain ⟨v3, y3, c3, _, t3⟩ := hf 3 _ rfl
      obtain ⟨v4, y4, c4, _, t4⟩ := hf 4 _ rfl
      obtain ⟨x0, z0, _, w0⟩ := DataW.trod_int Try.underlying3 t0
      obtain ⟨x1, z1, _, w1⟩ := DataW.trod_int Try.underlying3 t1
      obtain ⟨x2, z2, _, w2⟩ := DataW.trod_int Try.underlying3 t2
      obtain ⟨x3, z3, _, w3⟩ := DataW.trod_int Try.underlying3 t3
      obtain ⟨x4, z4, _⟩ := DataW.trod_bool Try.underlying4 t4
      simp at z0 z1 z2 z3 z4
      subst z0 z1 z2 z3 z4
      exact ⟨⟨x0, x1, x2, x3, x4⟩, c0, c1, c2, c3, c4, bounds_i64 w1, bounds_i64 w2, bounds_i64 w3⟩
    obtain ⟨q, hq⟩ : ∃ q : Nat → Op5, ∀ k, k < l → Op5At w ⟨b, off, spot⟩ k (q k) :=
      ⟨fun k => if h : k < l then Classical.choose (key k h) else zOp5, fun k hk => by simp only [dif_pos hk]; exact Classical.choose_spec (key k hk)⟩
    refine ⟨_, l, c, q, rfl, fun h0 => ?_⟩
    have hspot : spot = none := by
      have c0 := (hq 0 h0).1
      simpa [Addr.add] using World.cell?_spot c0
    subst hspot
    refine ⟨b, off, rfl, fun k hk => ?_⟩
    have := hq k hk
    simp only [Op5At, Addr.add_lit, Nat.add_zero, ← Nat.add_assoc] at this
    exact this
theorem open_num {H : Type} {enc : TypeId × Value → H} {w : World} {base fuel : Nat} {held : Bool} {v : Value} {x : DataW H × List MemPlace}
    (h : DataW.trod enc Try.prog w base (fun _ => true) held fuel 24 [v] = some x) : ∃ a len cap f, v = .slice a len cap ∧ IsNum w a len f := by
  rcases open_ints Try.underlying24 Try.underlying73 (by kernel_rfl) h with ⟨hcs, _⟩ | ⟨y, l, c, zs, hcs, _, hl, hm, hz, _, hcell, hwz⟩
  · simp at hcs
    exact ⟨none, 0, 0, fun _ => 0, hcs, fun h => absurd h (Nat.lt_irrefl _)⟩
  · simp at hcs
    subst hcs
    refine ⟨some y, l, c, fun k => (zs.getD k 0).toNat, rfl, fun h0 => ?_⟩
    obtain ⟨b, off, spot⟩ := y
    simp at hz
    have hc0 := hcell 0 (by omega)
    have hspot : spot = none := by simpa [Addr.add] using World.cell?_spot hc0
    subst hspot
    refine ⟨b, off, rfl, fun k hk => ?_⟩
    have hc := hcell k (by omega)
    have r := range_u64 hwz k
    rw [Addr.add_lit] at hc
    have r1 : 0 ≤ zs.getD k 0 := by simpa using r.1
    have r2 : zs.getD k 0 ≤ 18446744073709551615 := by simpa using r.2
    refine ⟨?_, (by show (zs.getD k 0).toNat ≤ _; omega)⟩
    rw [hc]
    show _ = some (Value.int .u64 ((zs.getD k 0).toNat : Int))
    rw [Int.toNat_of_nonneg r1]
theorem array5 {α : Type} {cs : Array α} (h : cs.size = 5) : ∃ c0 c1 c2 c3 c4, cs = #[c0, c1, c2, c3, c4] := by
  obtain ⟨l⟩ := cs
  match l, h with
  | [c0, c1, c2, c3, c4], _ => exact ⟨c0, c1, c2, c3, c4, rfl⟩
/-- A case's value. -/
abbrev vC9 (V S T : Int) (da : Option Addr) (dl dc : Nat) (oa : Option Addr) (ol oc : Nat) : Value := .agg #[.int .i64 V, .int .i64 S, .int .i64 T, .slice da dl dc, .slice oa ol oc]
theorem open_case {H : Type} {enc : TypeId × Value → H} {w : World} {base : Nat} {held : Bool} {r : Reach} {b0 : Nat} {v : Value} {d : DataW H} {p : List MemPlace}
    (hv : Value.okWide Try.prog w r b0 27 v) (h : DataW.Trod enc Try.prog w base (fun _ => true) held 27 v d p) :
    ∃ V S T da dl dc f oa ol oc fo, v = vC9 V S T da dl dc oa ol oc ∧ IsNum w da dl f ∧ IsOp5 w oa ol fo := by
  obtain ⟨cs, rfl, hsz⟩ := okWide_struct Try.underlying27 hv
  obtain ⟨c0, c1, c2, c3, c4, rfl⟩ := array5 (hsz.trans (by kernel_rfl))
  obtain ⟨fuel, hf⟩ := h
  obtain ⟨y0, y1, y2, n, _, _, g0, g1, g2⟩ := trod_struct3 Try.underlying27 hf
  rw [show Try.prog.cellsOf _ = 3 by kernel_rfl] at g0
  rw [show Try.prog.cellsOf _ = 1 by kernel_rfl] at g1
  rw [show Try.prog.cellsOf _ = 1 by kernel_rfl] at g2
  simp [Value.cells] at g0 g1 g2
  obtain ⟨z0, z1, z2, n2, _, _, k0, k1, k2⟩ := trod_struct3 Try.underlying23 g0
  rw [show Try.prog.cellsOf _ = 1 by kernel_rfl] at k0 k1 k2
  simp at k0 k1 k2
  obtain ⟨V, e0, _, _⟩ := DataW.trod_int Try.underlying3 k0
  obtain ⟨S, e1, _, _⟩ := DataW.trod_int Try.underlying3 k1
  obtain ⟨T, e2, _, _⟩ := DataW.trod_int Try.underlying3 k2
  simp at e0 e1 e2
  obtain ⟨da, dl, dc, f, e3, h3⟩ := open_num g1
  obtain ⟨oa, ol, oc, fo, e4, h4⟩ := open_op5 g2
  subst e0 e1 e2 e3 e4
  exact ⟨V, S, T, da, dl, dc, f, oa, ol, oc, fo, rfl, h3, h4⟩

/-- May a case be gone through? -/
def rgt9 (V S T : Int) (dl ol : Nat) : Bool := rtB V S T && decide (V ≤ 4) && decide (S ≤ 3) && decide (dl ≤ 60) && decide (ol ≤ 60)
structure RG (V S T : Int) (dl ol : Nat) : Prop where
  r : Rt V S T
  v : V ≤ 4
  s : S ≤ 3
  d : dl ≤ 60
  o : ol ≤ 60
theorem rgt9_yes {V S T : Int} {dl ol : Nat} (h : rgt9 V S T dl ol = true) : RG V S T dl ol := by
  unfold rgt9 at h
  simp only [Bool.and_eq_true, decide_eq_true_eq] at h
  exact ⟨rtB_yes h.1.1.1.1, h.1.1.1.2, h.1.1.2, h.1.2, h.2⟩
theorem RG.few {V S T : Int} {dl ol : Nat} (h : RG V S T dl ol) : nN V S ≤ 40 := by
  have h1 := h.r.v1
  have h2 := h.v
  have h3 := h.r.s1
  have h4 := h.s
  have hv : V = 1 ∨ V = 2 ∨ V = 3 ∨ V = 4 := by omega
  have hs : S = 0 ∨ S = 1 ∨ S = 2 ∨ S = 3 := by omega
  rcases hv with rfl | rfl | rfl | rfl <;> rcases hs with rfl | rfl | rfl | rfl <;> decide
set_option maxHeartbeats 4000000 in
theorem right_case (V S T : Int) (da : Option Addr) (dl dc : Nat) (oa : Option Addr) (ol oc : Nat) (w : World) :
    Calls Try.prog 8 #[vC9 V S T da dl dc oa ol oc] w fun e w' => e = .returned (.bool (rgt9 V S T dl ol)) ∧ Below w.heap.size w w' := by
  have HB : Hid (Below w.heap.size w ((w.alloc (.cells #[.int .i64 V, .int .i64 S, .int .i64 T, .slice da dl dc, .slice oa ol oc] 27)).alloc (.cells #[.int .i64 V, .int .i64 S, .int .i64 T] 23))) := Lib.hid (((Below.refl _ _).alloc (Nat.le_refl _) _).alloc (by simp) _)
  have HZ : Hid (Blk ((w.alloc (.cells #[.int .i64 V, .int .i64 S, .int .i64 T, .slice da dl dc, .slice oa ol oc] 27)).alloc (.cells #[.int .i64 V, .int .i64 S, .int .i64 T] 23)) w.heap.size 27 #[.int .i64 V, .int .i64 S, .int .i64 T, .slice da dl dc, .slice oa ol oc]) := Lib.hid ((Blk.new _ _ _).alloc _)
  have HL : Hid (Blk ((w.alloc (.cells #[.int .i64 V, .int .i64 S, .int .i64 T, .slice da dl dc, .slice oa ol oc] 27)).alloc (.cells #[.int .i64 V, .int .i64 S, .int .i64 T] 23)) (w.heap.size + 1) 23 #[.int .i64 V, .int .i64 S, .int .i64 T]) := Lib.hid (new_next w _ _ _ _)
  go_enter Try.func8, Try.ntmps8
  go_wp2_with fail
  generalize w.heap.size = zb at HZ HL ⊢
  generalize (w.alloc (.cells #[.int .i64 V, .int .i64 S, .int .i64 T, .slice da dl dc, .slice oa ol oc] 27)).alloc (.cells #[.int .i64 V, .int .i64 S, .int .i64 T] 23) = W1 at HZ HL HB ⊢
  refine (rright_any V S T _).mono ?_; rintro e w2 ⟨rfl, hb2⟩
  have HB2 := Lib.hid (HB.out.trans (hb2.mono HB.out.size))
  have z3 := HZ.out.below hb2 HZ.out.lt |>.cell 3
  have z4 := HZ.out.below hb2 HZ.out.lt |>.cell 4
  have l0 : w2.cell? ⟨zb + 1, 0, none⟩ = some (.int .i64 V) := (HL.out.below hb2 HL.out.lt).cell 0
  have l1 : w2.cell? ⟨zb + 1, 1, none⟩ = some (.int .i64 S) := (HL.out.below hb2 HL.out.lt).cell 1
  have zlt := (HZ.out.below hb2 HZ.out.lt).lt
  have llt := (HL.out.below hb2 HL.out.lt).lt
  clear HZ HL HB hb2
  cases h1 : rtB V S T
  · go_wp2_with fail
    go_ret
    exact ⟨by unfold rgt9; rw [h1]; rfl, HB2.out⟩
  by_cases h2 : V ≤ 4
  · by_cases h3 : S ≤ 3
    · by_cases h4 : dl ≤ 60
      · have h4i : (dl : Int) ≤ 60 := by omega
        by_cases h5 : ol ≤ 60
        · have h5i : (ol : Int) ≤ 60 := by omega
          go_wp2_with fail
          go_ret
          exact ⟨by unfold rgt9; rw [h1, decide_eq_true h2, decide_eq_true h3, decide_eq_true h4, decide_eq_true h5]; rfl, HB2.out⟩
        · have h5i : ¬ (ol : Int) ≤ 60 := by omega
          have h5d : decide ((ol : Int) ≤ 60) = false := decide_eq_false h5i
          go_wp2_with fail
          go_ret
          exact ⟨by unfold rgt9; rw [h1, decide_eq_true h2, decide_eq_true h3, decide_eq_true h4, decide_eq_false h5]; rfl, HB2.out⟩
      · have h4i : ¬ (dl : Int) ≤ 60 := by omega
        go_wp2_with fail
        go_ret
        exact ⟨by unfold rgt9; rw [h1, decide_eq_true h2, decide_eq_true h3, decide_eq_false h4]; rfl, HB2.out⟩
    · go_wp2_with fail
      go_ret
      exact ⟨by unfold rgt9; rw [h1, decide_eq_true h2, decide_eq_false (by omega)]; rfl, HB2.out⟩
  · go_wp2_with fail
    go_ret
    exact ⟨by unfold rgt9; rw [h1, decide_eq_false (by omega)]; rfl, HB2.out⟩
end Go.Proofs.Ytgafnomfdnbblaa

/- The laws' state: a play, beside the case that came in; the play's calls as the laws make them. -/
namespace Go.Proofs.Ytgafnomfdnbblaa
open Go.RowKit

set_option maxRecDepth 100000

/-- A law's state. -/
structure LW (w0 W : World) (zb : Nat) (vc : Array Value) (K : PK9) (m : Nat) (g : Mg9) (mk : Nat → Nat) (ts : List Tp) (vr : Value) (vs : List Value) : Prop where
  z : Blk W zb 27 vc
  pl : PlayM W K m g mk ts vr vs
  fi : FI K.V K.S g mk ts
  be : Below w0.heap.size w0 W
  hb : w0.heap.size ≤ K.base
  hz : zb < K.base
  ko : KOk K
section
variable {w w' W W' w0 : World} {zb : Nat} {vc : Array Value} {K : PK9} {m m' : Nat} {g g' : Mg9} {mk mk' : Nat → Nat} {ts ts' : List Tp} {vr vr' : Value} {vs vs' : List Value}
theorem LW.size (h : LW w0 W zb vc K m g mk ts vr vs) : K.base ≤ W.heap.size := Nat.le_of_lt (Nat.lt_of_le_of_lt h.ko.q (Blk.lt h.pl.blk))
theorem LW.below (h : LW w0 W zb vc K m g mk ts vr vs) (hb : Below W.heap.size W W') : LW w0 W' zb vc K m g mk ts vr vs := ⟨h.z.below hb h.z.lt, h.pl.below hb, h.fi, h.be.trans (hb.mono (Nat.le_trans h.hb h.size)), h.hb, h.hz, h.ko⟩
theorem LW.drew (h : LW w0 W zb vc K m g mk ts vr vs) : LW w0 W.drew zb vc K m g mk ts vr vs := h.below (Below.refl _ _).drew
theorem LW.next (h : LW w0 W zb vc K m g mk ts vr vs) (hp : PlayM W' K m' g' mk' ts' vr' vs') (hf : FI K.V K.S g' mk' ts') (hb : Below K.base W W') : LW w0 W' zb vc K m' g' mk' ts' vr' vs' := ⟨h.z.below hb h.hz, hp, hf, h.be.trans (hb.mono h.hb), h.hb, h.hz, h.ko⟩
theorem LW.only (h : LW w0 W zb vc K m g mk ts vr vs) (hp : PlayM W' K m' g' mk' ts' vr' vs') (hf : FI K.V K.S g' mk' ts') (ho : Only K.p K.gb W W') : LW w0 W' zb vc K m' g' mk' ts' vr' vs' := h.next hp hf (Only.below (Below.refl _ _) ho h.size h.ko.p h.ko.g)
theorem LW.more (h : LW w0 W zb vc K m g mk ts vr vs) (hm : m ≤ m') : LW w0 W zb vc K m' g mk ts vr vs := ⟨h.z, h.pl.more hm, h.fi, h.be, h.hb, h.hz, h.ko⟩
/-- Behind a call that reads. -/
theorem LW.reads (h : LW w0 W zb vc K m g mk ts vr vs) (A : TM W' K.V K.S K.T K.p K.gb K.cap m' g) (ho : Only K.p K.gb W W') : LW w0 W' zb vc K m' g mk ts vr vs := h.only (h.pl.step A ho fun _ => rfl) h.fi ho
end

section
variable {w w' W W' w0 : World} {zb : Nat} {vc : Array Value} {V S T : Int} {q p gb cap pb mb vb cp cm cv base m : Nat} {g : Mg9} {mk : Nat → Nat} {ts : List Tp} {vr : Value} {vs : List Value}
theorem LW.pf (h : LW w0 W zb vc ⟨V, S, T, q, p, gb, cap, pb, mb, vb, cp, cm, cv, base⟩ m g mk ts vr vs) : PF W q V S T p (nN V S) pb cp mb cm vb cv vr := h.pl.blk
theorem LW.tm (h : LW w0 W zb vc ⟨V, S, T, q, p, gb, cap, pb, mb, vb, cp, cm, cv, base⟩ m g mk ts vr vs) : TM W V S T p gb cap m g := h.pl.tm
theorem LW.ff (h : LW w0 W zb vc ⟨V, S, T, q, p, gb, cap, pb, mb, vb, cp, cm, cv, base⟩ m g mk ts vr vs) : FI V S g mk ts := h.fi
theorem lis (h : LW w0 w zb vc ⟨V, S, T, q, p, gb, cap, pb, mb, vb, cp, cm, cv, base⟩ m g mk ts vr vs) (hm : m ≤ 990000) :
    Calls Try.prog 11 #[.pointer (some ⟨q, 0, none⟩)] w fun e w' => e = .returned (.bool true) ∧ LW w0 w' zb vc ⟨V, S, T, q, p, gb, cap, pb, mb, vb, cp, cm, cv, base⟩ (m + 4 * (nN V S + 1)) g mk ts vr vs ∧ Below base w w' := by
  refine Calls.mono (is_any (K := ⟨V, S, T, q, p, gb, cap, pb, mb, vb, cp, cm, cv, base⟩) h.pl h.fi hm) ?_
  rintro e w' ⟨rfl, hp, ho⟩
  exact ⟨rfl, h.only hp h.fi ho, Only.below (Below.refl _ _) ho h.size h.ko.p h.ko.g⟩
theorem lstep (h : LW w0 w zb vc ⟨V, S, T, q, p, gb, cap, pb, mb, vb, cp, cm, cv, base⟩ m g mk ts vr vs) {kd a b k : Int} {on : Bool} (ha : i64In a) (hb : i64In b) (hk : i64In k) (hm : m ≤ 950000) :
    Calls Try.prog 12 #[.pointer (some ⟨q, 0, none⟩), .agg #[.int .i64 kd, .int .i64 a, .int .i64 b, .int .i64 k, .bool on]] w fun e w' => e = .returned (.bool true) ∧ ∃ g' mk' ts' vr' vs', LW w0 w' zb vc ⟨V, S, T, q, p, gb, cap, pb, mb, vb, cp, cm, cv, base⟩ (m + 12 * nN V S + 7) g' mk' ts' vr' vs' ∧ Below base w w' ∧ ∀ y, g' y 5 = g y 5 := by
  refine (step_flat (on := on) (kd := kd) h.pl h.fi h.ko ha.2 hb.2 hk.1 hk.2 hm).mono ?_
  rintro e w' ⟨g', mk', ts', vr', vs', rfl, hp, hf, hb, h5⟩
  exact ⟨rfl, g', mk', ts', vr', vs', h.next hp hf hb, hb, h5⟩
/-- begun, as the laws call it. -/
theorem lbegun {da : Option Addr} {dl dc : Nat} {vo : Value} {f : Nat → Nat} (hR : Rt V S T) (hD : IsNum w da dl f) (hdl : dl ≤ 60) (hz : Blk w zb 27 vc) (hb : Below w0.heap.size w0 w) :
    Calls Try.prog 10 #[.agg #[.int .i64 V, .int .i64 S, .int .i64 T, .slice da dl dc, vo]] w fun e w' => ∃ q p gb cap pb mb vb cp cm cv base g vr vs, e = .returned (.pointer (some ⟨q, 0, none⟩)) ∧
      LW w0 w' zb vc ⟨V, S, T, q, p, gb, cap, pb, mb, vb, cp, cm, cv, base⟩ (10 * nN V S) g (fun _ => 0) (sing (nN V S)) vr vs ∧ (∀ x, 1 ≤ x → x ≤ nN V S → g x 5 = priF dl f x) ∧ w.heap.size = base ∧ Below w.heap.size w w' := by
  refine (begun_any hR hD hdl).mono ?_
  rintro e w' ⟨q, p, gb, cap, pb, mb, vb, cp, cm, cv, g, vr, vs, rfl, hK, hP, hF, hb', hpri⟩
  exact ⟨q, p, gb, cap, pb, mb, vb, cp, cm, cv, w.heap.size, g, vr, vs, rfl, ⟨hz.below hb' hz.lt, hP, hF, hb.trans (hb'.mono hb.size), hb.size, hz.lt, hK⟩, hpri, rfl, hb'⟩
end

end Go.Proofs.Ytgafnomfdnbblaa
