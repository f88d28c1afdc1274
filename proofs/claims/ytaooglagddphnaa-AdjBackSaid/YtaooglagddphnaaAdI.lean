/- Lists of sides in cells, plainly: one side comes first, one goes out; marks. -/
import Derived.Test.YtaooglagddphnaaAdH
namespace Go.Proofs.Ytaooglagddphnaa
open Go.RowKit

set_option maxRecDepth 100000

/-- A list told anew. -/
def qset (q : Nat → Nat → List Nat) (v l : Nat) (L : List Nat) : Nat → Nat → List Nat := fun a b => if a = v ∧ b = l then L else q a b
/-- The cells have these lists. -/
structure LQ (V S T : Int) (f : Nat → Int) (q : Nat → Nat → List Nat) : Prop where
  ou : ∀ v l : Nat, ¬ ((v : Int) < V ∧ (l : Int) < lv V) → q v l = []
  pt : ∀ v l : Nat, (v : Int) < V → (l : Int) < lv V → f (hC V S T v l) = (((q v l).headD 0 : Nat) : Int) ∧ ∃ c, Part S T f 0 ((q v l).headD 0) (q v l) c 0
  nd : ∀ v l, (q v l).Nodup
  rg : ∀ v l x, x ∈ q v l → 1 ≤ x ∧ (x : Int) ≤ 2 * S
  ap : ∀ v l v' l' x, x ∈ q v l → x ∈ q v' l' → v = v' ∧ l = l'
  bd : ∀ x : Nat, 1 ≤ x → (x : Int) ≤ 2 * S → ∃ a b : Nat, f (pvC S T x) = (a : Int) ∧ (a : Int) ≤ 2 * S ∧ f (nxC S T x) = (b : Int) ∧ (b : Int) ≤ 2 * S
  dd : ∀ x : Nat, 1 ≤ x → (x : Int) ≤ 2 * S → (∀ v l, x ∉ q v l) → ∀ y : Nat, 1 ≤ y → f (pvC S T x) = (y : Int) → f (nxC S T y) ≠ (x : Int)
/-- The marks tell which lists are empty. -/
def MQ (V : Int) (mk : Nat → Nat) (q : Nat → Nat → List Nat) : Prop := ∀ v l : Nat, (v : Int) < V → (l : Int) < lv V → hasB (mk (ndA V v l)) 0 = decide (q v l ≠ [])
/-- What is no list's cell stays. -/
def Ke (V S T : Int) (f f' : Nat → Int) : Prop := (∀ s k : Nat, (s : Int) < S → k < 3 → f' (sC S T s k) = f (sC S T s k)) ∧ ∀ u v : Nat, (u : Int) < V → (v : Int) < V → u ≠ v → f' (eC V S T u v) = f (eC V S T u v)
section
variable {V S T : Int} {f f' f2 : Nat → Int} {q : Nat → Nat → List Nat} {mk : Nat → Nat} {x y z n p s k u v l v2 l2 a b : Nat} {L l1 l3 : List Nat} {ls : List E1}
theorem qset_at : qset q v l L v l = L := if_pos ⟨rfl, rfl⟩
theorem qset_ne (h : ¬ (a = v ∧ b = l)) : qset q v l L a b = q a b := if_neg h
theorem mem_qset : x ∈ qset q v l L a b ↔ (a = v ∧ b = l ∧ x ∈ L) ∨ (¬ (a = v ∧ b = l) ∧ x ∈ q a b) := by
  unfold qset
  by_cases h : a = v ∧ b = l
  · rw [if_pos h]; simp [h]
  · rw [if_neg h]; simp only [h, not_false_eq_true, true_and]
    constructor
    · exact fun e => .inr e
    · rintro (⟨e1, e2, _⟩ | e)
      · exact absurd ⟨e1, e2⟩ h
      · exact e
theorem pvC_inj (h : Rt V S T) (h1 : 1 ≤ x) (h2 : (x : Int) ≤ 2 * S) (h3 : 1 ≤ y) (h4 : (y : Int) ≤ 2 * S) (e : pvC S T x = pvC S T y) : x = y := by
  have := sC_inj h (by omega) (by omega) (by omega) (by omega) e
  omega
theorem nxC_inj (h : Rt V S T) (h1 : 1 ≤ x) (h2 : (x : Int) ≤ 2 * S) (h3 : 1 ≤ y) (h4 : (y : Int) ≤ 2 * S) (e : nxC S T x = nxC S T y) : x = y := by
  have := sC_inj h (by omega) (by omega) (by omega) (by omega) e
  omega
theorem pv_nx (h : Rt V S T) (h1 : 1 ≤ x) (h2 : (x : Int) ≤ 2 * S) (h3 : 1 ≤ y) (h4 : (y : Int) ≤ 2 * S) : pvC S T x ≠ nxC S T y := fun e => by
  have := sC_inj h (by omega) (by omega) (by omega) (by omega) e
  omega
theorem hC_inj (h : Rt V S T) (h1 : (v : Int) < V) (h2 : (l : Int) < lv V) (h3 : (v2 : Int) < V) (h4 : (l2 : Int) < lv V) (e : hC V S T v l = hC V S T v2 l2) : v = v2 ∧ l = l2 := by
  have a1 := (head_int h h1 h2).2.1
  have a2 := (head_int h h3 h4).2.1
  have := head_inj h.v1 h.v2 (v := v) (l := l) (v' := v2) (l' := l2) (by omega) h2 (by omega) h4 (by omega)
  omega
theorem sC_hC (h : Rt V S T) (hs : (s : Int) < S) (hk : k < 7) (h1 : (v : Int) < V) (h2 : (l : Int) < lv V) : sC S T s k ≠ hC V S T v l := fun e => by
  have a1 := (head_int h h1 h2).2
  have a2 := sC_spec (T := T) hs hk
  have a3 := sC_int h hs hk
  unfold o3 at a1
  omega
theorem pv_hC (h : Rt V S T) (h1 : 1 ≤ x) (h2 : (x : Int) ≤ 2 * S) (h3 : (v : Int) < V) (h4 : (l : Int) < lv V) : pvC S T x ≠ hC V S T v l := sC_hC h (by omega) (by omega) h3 h4
theorem nx_hC (h : Rt V S T) (h1 : 1 ≤ x) (h2 : (x : Int) ≤ 2 * S) (h3 : (v : Int) < V) (h4 : (l : Int) < lv V) : nxC S T x ≠ hC V S T v l := sC_hC h (by omega) (by omega) h3 h4
theorem eC_hC (h : Rt V S T) (hu : (u : Int) < V) (hv : (v : Int) < V) (hne : u ≠ v) (h1 : (v2 : Int) < V) (h2 : (l : Int) < lv V) : eC V S T u v ≠ hC V S T v2 l := fun e => by
  have a1 := (head_int h h1 h2).2
  have a2 := eC_lo h hu hv hne
  unfold o3 at a1
  unfold o4 at a2
  omega
theorem eC_pv (h : Rt V S T) (hu : (u : Int) < V) (hv : (v : Int) < V) (hne : u ≠ v) (h1 : 1 ≤ x) (h2 : (x : Int) ≤ 2 * S) : eC V S T u v ≠ pvC S T x := fun e => sC_eC h (by omega) (by omega) hu hv hne e.symm
theorem eC_nx (h : Rt V S T) (hu : (u : Int) < V) (hv : (v : Int) < V) (hne : u ≠ v) (h1 : 1 ≤ x) (h2 : (x : Int) ≤ 2 * S) : eC V S T u v ≠ nxC S T x := fun e => sC_eC h (by omega) (by omega) hu hv hne e.symm
theorem s_pv (h : Rt V S T) (hs : (s : Int) < S) (hk : k < 3) (h1 : 1 ≤ x) (h2 : (x : Int) ≤ 2 * S) : sC S T s k ≠ pvC S T x := fun e => by
  have := (sC_inj h hs (by omega) (by omega) (by omega) e).2
  omega
theorem s_nx (h : Rt V S T) (hs : (s : Int) < S) (hk : k < 3) (h1 : 1 ≤ x) (h2 : (x : Int) ≤ 2 * S) : sC S T s k ≠ nxC S T x := fun e => by
  have := (sC_inj h hs (by omega) (by omega) (by omega) e).2
  omega
theorem Ke.trans (h : Ke V S T f f') (h2 : Ke V S T f' f2) : Ke V S T f f2 := ⟨fun s k a b => (h2.1 s k a b).trans (h.1 s k a b), fun u v a b c => (h2.2 u v a b c).trans (h.2 u v a b c)⟩
theorem Ke.er (h : Ke V S T f f') (hE : ER V S T f ls) : ER V S T f' ls := by
  refine ⟨hE.ok, hE.un, fun e hx => ?_, fun u v huv hv hn => ?_⟩
  · obtain ⟨a, b, c, d⟩ := hE.ok e hx
    rw [h.2 e.u e.v (by omega) b (by omega), h.1 e.s 1 c (by omega), h.1 e.s 2 c (by omega)]
    exact hE.is e hx
  · rw [h.2 u v (by omega) hv (by omega)]; exact hE.no u v huv hv hn
/-- What join turns, cell by cell. -/
structure JF (V S T : Int) (f f' : Nat → Int) (v l x y : Nat) : Prop where
  h : ∀ a b : Nat, (a : Int) < V → (b : Int) < lv V → f' (hC V S T a b) = if x = 0 ∧ a = v ∧ b = l then (y : Int) else f (hC V S T a b)
  n : ∀ z : Nat, 1 ≤ z → (z : Int) ≤ 2 * S → f' (nxC S T z) = if z = x then (y : Int) else f (nxC S T z)
  p : ∀ z : Nat, 1 ≤ z → (z : Int) ≤ 2 * S → f' (pvC S T z) = if z = y then (x : Int) else f (pvC S T z)
  k : Ke V S T f f'
theorem joinF_is (hR : Rt V S T) (hv : (v : Int) < V) (hl : (l : Int) < lv V) (hx : (x : Int) ≤ 2 * S) (hy : (y : Int) ≤ 2 * S) : JF V S T f (joinF V S T f v l x y) v l x y := by
  have e1 : ∀ i, joinF V S T f v l x y i = if y ≠ 0 ∧ i = pvC S T y then (x : Int) else if i = nxA V S T v l x then (y : Int) else f i := fun i => by
    unfold joinF
    by_cases h : y = 0
    · subst h
      rw [if_pos rfl, if_neg (by simp)]
      by_cases e : i = nxA V S T v l x
      · rw [e, upd_same, if_pos rfl]; rfl
      · rw [upd_other _ _ e, if_neg e]
    · rw [if_neg h]
      by_cases e : i = pvC S T y
      · rw [e, upd_same, if_pos ⟨h, rfl⟩]
      · rw [upd_other _ _ e, if_neg (by rintro ⟨_, c⟩; exact e c)]
        by_cases e : i = nxA V S T v l x
        · rw [e, upd_same, if_pos rfl]
        · rw [upd_other _ _ e, if_neg e]
  have e0 : x = 0 → nxA V S T v l x = hC V S T v l := fun h => if_pos h
  have e9 : x ≠ 0 → nxA V S T v l x = nxC S T x := fun h => if_neg h
  refine ⟨fun a b ha hb => ?_, fun z h1 h2 => ?_, fun z h1 h2 => ?_, fun s k hs hk => ?_, fun u v3 hu hv3 hne => ?_⟩
  · rw [e1, if_neg (by rintro ⟨c1, c2⟩; exact pv_hC hR (by omega) hy ha hb c2.symm)]
    by_cases h : x = 0
    · rw [e0 h]
      by_cases c : a = v ∧ b = l
      · obtain ⟨rfl, rfl⟩ := c
        rw [if_pos rfl, if_pos ⟨h, rfl, rfl⟩]
      · rw [if_neg fun e => c (hC_inj hR ha hb hv hl e), if_neg fun e => c e.2]
    · rw [e9 h, if_neg fun e => nx_hC hR (by omega) hx ha hb e.symm, if_neg fun e => h e.1]
  · rw [e1, if_neg (by rintro ⟨c1, c2⟩; exact pv_nx hR (by omega) hy h1 h2 c2.symm)]
    by_cases h : x = 0
    · rw [e0 h, if_neg (nx_hC hR h1 h2 hv hl), if_neg (by omega)]
    · rw [e9 h]
      by_cases c : z = x
      · rw [c, if_pos rfl, if_pos rfl]
      · rw [if_neg fun e => c (nxC_inj hR h1 h2 (by omega) hx e), if_neg c]
  · rw [e1]
    by_cases c : z = y
    · rw [if_pos ⟨by omega, by rw [c]⟩, if_pos c]
    · rw [if_neg (by rintro ⟨c1, c2⟩; exact c (pvC_inj hR h1 h2 (by omega) hy c2)), if_neg c]
      by_cases h : x = 0
      · rw [e0 h, if_neg (pv_hC hR h1 h2 hv hl)]
      · rw [e9 h, if_neg (pv_nx hR h1 h2 (by omega) hx)]
  · rw [e1, if_neg (by rintro ⟨c1, c2⟩; exact s_pv hR hs hk (by omega) hy c2)]
    by_cases h : x = 0
    · rw [e0 h, if_neg (sC_hC hR hs (by omega) hv hl)]
    · rw [e9 h, if_neg (s_nx hR hs hk (by omega) hx)]
  · rw [e1, if_neg (by rintro ⟨c1, c2⟩; exact eC_pv hR hu hv3 hne (by omega) hy c2)]
    by_cases h : x = 0
    · rw [e0 h, if_neg (eC_hC hR hu hv3 hne hv hl)]
    · rw [e9 h, if_neg (eC_nx hR hu hv3 hne (by omega) hx)]
theorem headD_mem {L : List Nat} (h : L.headD 0 ≠ 0) : L.headD 0 ∈ L := by
  cases L with
  | nil => exact absurd rfl h
  | cons a L => simp
theorem LQ.head_le (h : LQ V S T f q) (hS : 0 ≤ S) : (((q v l).headD 0 : Nat) : Int) ≤ 2 * S := by
  by_cases e : (q v l).headD 0 = 0
  · rw [e]; omega
  · exact (h.rg v l _ (headD_mem e)).2
theorem LQ.head_zero (h : LQ V S T f q) : (q v l).headD 0 = 0 ↔ q v l = [] := by
  constructor
  · intro e
    cases hq : q v l with
    | nil => rfl
    | cons a L =>
      rw [hq] at e
      have := (h.rg v l a (by rw [hq]; simp)).1
      simp at e; omega
  · intro e; rw [e]; rfl
/-- A side comes first. -/
theorem LQ.add (h : LQ V S T f q) (hR : Rt V S T) (hv : (v : Int) < V) (hl : (l : Int) < lv V) (h1 : 1 ≤ x) (h2 : (x : Int) ≤ 2 * S) (hd : ∀ a b, x ∉ q a b) (J1 : JF V S T f f' v l 0 x) (J2 : JF V S T f' f2 v l x ((q v l).headD 0)) :
    LQ V S T f2 (qset q v l (x :: q v l)) ∧ Ke V S T f f2 := by
  obtain ⟨n, hn⟩ : ∃ n, (q v l).headD 0 = n := ⟨_, rfl⟩
  rw [hn] at J2
  have nx : n ≠ x := fun e => hd v l (by rw [← e, ← hn]; exact headD_mem (by omega))
  have nm : ∀ a b z, z ∈ q a b → z = n → a = v ∧ b = l := fun a b z hz e => h.ap a b v l z hz (by rw [e, ← hn]; exact headD_mem (by rw [hn, ← e]; have := (h.rg a b z hz).1; omega))
  have eh : ∀ a b : Nat, (a : Int) < V → (b : Int) < lv V → f2 (hC V S T a b) = if a = v ∧ b = l then (x : Int) else f (hC V S T a b) := fun a b ha hb => by
    rw [J2.h a b ha hb, if_neg (by omega), J1.h a b ha hb]
    by_cases c : a = v ∧ b = l
    · rw [if_pos ⟨rfl, c⟩, if_pos c]
    · rw [if_neg fun e => c e.2, if_neg c]
  have en : ∀ z : Nat, 1 ≤ z → (z : Int) ≤ 2 * S → f2 (nxC S T z) = if z = x then (n : Int) else f (nxC S T z) := fun z z1 z2 => by
    rw [J2.n z z1 z2, J1.n z z1 z2, if_neg (show ¬ z = 0 by omega)]
  have ep : ∀ z : Nat, 1 ≤ z → (z : Int) ≤ 2 * S → f2 (pvC S T z) = if z = n then (x : Int) else if z = x then 0 else f (pvC S T z) := fun z z1 z2 => by
    rw [J2.p z z1 z2, J1.p z z1 z2]; rfl
  refine ⟨⟨fun a b hab => ?_, fun a b ha hb => ?_, fun a b => ?_, fun a b z hz => ?_, fun a b a' b' z hz hz' => ?_, fun z z1 z2 => ?_, fun z z1 z2 hz y y1 hy => ?_⟩, J1.k.trans J2.k⟩
  · rw [qset_ne (by rintro ⟨rfl, rfl⟩; exact hab ⟨hv, hl⟩)]; exact h.ou a b hab
  · by_cases c : a = v ∧ b = l
    · obtain ⟨rfl, rfl⟩ := c
      obtain ⟨g1, c9, g2⟩ := h.pt a b ha hb
      rw [qset_at]
      refine ⟨by rw [eh a b ha hb, if_pos ⟨rfl, rfl⟩]; rfl, ?_⟩
      rw [hn] at g2
      refine Part.front (z := x) g2 (h.nd a b) (by omega) ?_ ?_ (fun hn0 => ?_) (fun y hy => ?_) (fun y hy hyn => ?_)
      · rw [ep x h1 h2, if_neg (Ne.symm nx), if_pos rfl]
      · rw [en x h1 h2, if_pos rfl]
      · have hm : n ∈ q a b := by rw [← hn]; exact headD_mem (by rw [hn]; exact hn0)
        obtain ⟨r1, r2⟩ := h.rg a b n hm
        rw [ep n r1 r2, if_pos rfl]
      · obtain ⟨r1, r2⟩ := h.rg a b y hy
        rw [en y r1 r2, if_neg fun e => hd a b (by rw [← e]; exact hy)]
      · obtain ⟨r1, r2⟩ := h.rg a b y hy
        rw [ep y r1 r2, if_neg hyn, if_neg fun e => hd a b (by rw [← e]; exact hy)]
    · rw [qset_ne c, eh a b ha hb, if_neg c]
      obtain ⟨g1, c9, g2⟩ := h.pt a b ha hb
      refine ⟨g1, c9, g2.cong fun z hz => ?_⟩
      obtain ⟨r1, r2⟩ := h.rg a b z hz
      exact ⟨by rw [ep z r1 r2, if_neg fun e => c (nm a b z hz e), if_neg fun e => hd a b (by rw [← e]; exact hz)], by rw [en z r1 r2, if_neg fun e => hd a b (by rw [← e]; exact hz)]⟩
  · by_cases c : a = v ∧ b = l
    · obtain ⟨rfl, rfl⟩ := c
      rw [qset_at]; exact List.nodup_cons.2 ⟨hd a b, h.nd a b⟩
    · rw [qset_ne c]; exact h.nd a b
  · rcases mem_qset.1 hz with ⟨_, _, hz⟩ | ⟨_, hz⟩
    · rcases List.mem_cons.1 hz with rfl | hz
      · exact ⟨h1, h2⟩
      · exact h.rg v l z hz
    · exact h.rg a b z hz
  · rcases mem_qset.1 hz with ⟨e1, e2, hz⟩ | ⟨c, hz⟩ <;> rcases mem_qset.1 hz' with ⟨e3, e4, hz'⟩ | ⟨c', hz'⟩
    · omega
    · rcases List.mem_cons.1 hz with e | hz
      · exact absurd (by rw [← e]; exact hz') (hd a' b')
      · have := h.ap v l a' b' z hz hz'; omega
    · rcases List.mem_cons.1 hz' with e | hz'
      · exact absurd (by rw [← e]; exact hz) (hd a b)
      · have := h.ap a b v l z hz hz'; omega
    · exact h.ap a b a' b' z hz hz'
  · obtain ⟨a, b, g1, g2, g3, g4⟩ := h.bd z z1 z2
    have hn2 : (n : Int) ≤ 2 * S := by rw [← hn]; exact h.head_le hR.s1
    rw [ep z z1 z2, en z z1 z2]
    have A : ∃ a' : Nat, (if z = n then (x : Int) else if z = x then 0 else f (pvC S T z)) = (a' : Int) ∧ (a' : Int) ≤ 2 * S := by
      by_cases c : z = n
      · exact ⟨x, if_pos c, h2⟩
      · rw [if_neg c]
        by_cases c2 : z = x
        · exact ⟨0, if_pos c2, by have := hR.s1; omega⟩
        · exact ⟨a, by rw [if_neg c2]; exact g1, g2⟩
    have B : ∃ b' : Nat, (if z = x then (n : Int) else f (nxC S T z)) = (b' : Int) ∧ (b' : Int) ≤ 2 * S := by
      by_cases c2 : z = x
      · exact ⟨n, if_pos c2, hn2⟩
      · exact ⟨b, by rw [if_neg c2]; exact g3, g4⟩
    obtain ⟨a', A1, A2⟩ := A
    obtain ⟨b', B1, B2⟩ := B
    exact ⟨a', b', A1, A2, B1, B2⟩
  · have zx : z ≠ x := fun e => hz v l (by rw [qset_at, e]; simp)
    have zo : ∀ a b, z ∉ q a b := fun a b hm => by
      by_cases c : a = v ∧ b = l
      · obtain ⟨rfl, rfl⟩ := c; exact hz a b (by rw [qset_at]; simp [hm])
      · exact hz a b (by rw [qset_ne c]; exact hm)
    have zn : z ≠ n := fun e => zo v l (by rw [e, ← hn]; exact headD_mem (by rw [hn]; omega))
    rw [ep z z1 z2, if_neg zn, if_neg zx] at hy
    have y2 : (y : Int) ≤ 2 * S := by
      obtain ⟨a, b, g1, g2, _⟩ := h.bd z z1 z2
      omega
    rw [en y y1 y2]
    by_cases c : y = x
    · rw [if_pos c]; omega
    · rw [if_neg c]; exact h.dd z z1 z2 zo y y1 hy
theorem Part.lastnx {b y : Nat} : ∀ {l : List Nat} {a x : Nat}, Part S T f a x l b y → l ≠ [] → f (nxC S T b) = (y : Int)
  | [], _, _, _, h => absurd rfl h
  | z :: l, a, x, ⟨_, _, _, n, h4, h5⟩, _ => by
    by_cases e : l = []
    · subst e
      obtain ⟨rfl, rfl⟩ := h5
      exact h4
    · exact h5.lastnx e
/-- What a side that is in a list tells. -/
theorem LQ.live (h : LQ V S T f q) (hv : (v : Int) < V) (hl : (l : Int) < lv V) (hq : q v l = l1 ++ x :: l3) :
    f (pvC S T x) = ((l1.getLast?.getD 0 : Nat) : Int) ∧ f (nxC S T x) = ((l3.headD 0 : Nat) : Int) ∧ f (nxA V S T v l (l1.getLast?.getD 0)) = (x : Int) := by
  obtain ⟨g1, c9, g2⟩ := h.pt v l hv hl
  rw [hq] at g1 g2
  obtain ⟨b, y, k1, k2⟩ := g2.split
  have hb := Part.last k1
  obtain ⟨rfl, k3, k4, m, k5, k6⟩ := k2
  have e : m = l3.headD 0 := Part.head' k6
  refine ⟨by rw [← hb]; exact k4, by rw [← e]; exact k5, ?_⟩
  rw [← hb]
  unfold nxA
  by_cases c : b = 0
  · rw [if_pos c]
    cases l1 with
    | nil => rw [g1]; rfl
    | cons a l1 =>
      exfalso
      have hm : b ∈ q v l := by
        rw [hb, hq]
        have : (a :: l1).getLast?.getD 0 ∈ a :: l1 := by
          rw [List.getLast?_eq_some_getLast (by simp)]; exact List.getLast_mem _
        exact List.mem_append_left _ this
      have := (h.rg v l b hm).1
      omega
  · rw [if_neg c]
    exact Part.lastnx k1 fun e => by subst e; exact c k1.1.symm
end
end Go.Proofs.Ytaooglagddphnaa
