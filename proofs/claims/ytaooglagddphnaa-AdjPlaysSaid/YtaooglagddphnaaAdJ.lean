/- Lists of sides, plainly: one goes out; marks; which edges lie beside. -/
import Derived.Test.YtaooglagddphnaaAdI
namespace Go.Proofs.Ytaooglagddphnaa
open Go.RowKit

set_option maxRecDepth 100000
section
variable {V S T : Int} {f f' f2 : Nat → Int} {q : Nat → Nat → List Nat} {mk : Nat → Nat} {x y z n p s k u v l v2 l2 a b : Nat} {L l1 l3 : List Nat} {ls bs : List E1} {on : Bool}
theorem last_mem {L : List Nat} (h : L.getLast?.getD 0 ≠ 0) : L.getLast?.getD 0 ∈ L := by
  by_cases e : L = []
  · subst e; exact absurd rfl h
  · rw [List.getLast?_eq_some_getLast e]; exact List.getLast_mem e
/-- A side goes out. -/
theorem LQ.rem (h : LQ V S T f q) (hR : Rt V S T) (hv : (v : Int) < V) (hl : (l : Int) < lv V) (hq : q v l = l1 ++ x :: l3) (J : JF V S T f f2 v l (l1.getLast?.getD 0) (l3.headD 0)) :
    LQ V S T f2 (qset q v l (l1 ++ l3)) := by
  obtain ⟨i1, i2, _⟩ := h.live hv hl hq
  obtain ⟨n, hn⟩ : ∃ n, l3.headD 0 = n := ⟨_, rfl⟩
  obtain ⟨p, hp⟩ : ∃ p, l1.getLast?.getD 0 = p := ⟨_, rfl⟩
  rw [hn] at J i2
  rw [hp] at J i1
  have hnd := h.nd v l
  rw [hq] at hnd
  obtain ⟨d1, d2, d3⟩ := List.nodup_append.1 hnd
  obtain ⟨d4, d5⟩ := List.nodup_cons.1 d2
  have hxm : x ∈ q v l := by rw [hq]; simp
  obtain ⟨x1, x2⟩ := h.rg v l x hxm
  have nm3 : n ≠ 0 → n ∈ l3 := fun e => by rw [← hn]; exact headD_mem (by rw [hn]; exact e)
  have pm1 : p ≠ 0 → p ∈ l1 := fun e => by rw [← hp]; exact last_mem (by rw [hp]; exact e)
  have m1 : ∀ z, z ∈ l1 → z ∈ q v l := fun z hz => by rw [hq]; simp [hz]
  have m3 : ∀ z, z ∈ l3 → z ∈ q v l := fun z hz => by rw [hq]; simp [hz]
  have nx : n ≠ x := fun e => d4 (by rw [← e]; exact nm3 (by omega))
  have px : p ≠ x := fun e => d3 p (pm1 (by omega)) x (by simp) e
  have nq : ∀ a b z, z ∈ q a b → z = n → a = v ∧ b = l := fun a b z hz e => h.ap a b v l z hz (by rw [e]; exact m3 n (nm3 (by rw [← e]; have := (h.rg a b z hz).1; omega)))
  have pq : ∀ a b z, z ∈ q a b → z = p → a = v ∧ b = l := fun a b z hz e => h.ap a b v l z hz (by rw [e]; exact m1 p (pm1 (by rw [← e]; have := (h.rg a b z hz).1; omega)))
  have n1 : ∀ z ∈ l1, z ≠ n := fun z hz e => d3 z hz n (by simp [nm3 (by rw [← e]; have := (h.rg v l z (m1 z hz)).1; omega)]) e
  have p3 : ∀ z ∈ l3, z ≠ p := fun z hz e => d3 p (pm1 (by rw [← e]; have := (h.rg v l z (m3 z hz)).1; omega)) z (by simp [hz]) e.symm
  refine ⟨fun a b hab => ?_, fun a b ha hb => ?_, fun a b => ?_, fun a b z hz => ?_, fun a b a' b' z hz hz' => ?_, fun z z1 z2 => ?_, fun z z1 z2 hz y y1 hy => ?_⟩
  · rw [qset_ne (by rintro ⟨rfl, rfl⟩; exact hab ⟨hv, hl⟩)]; exact h.ou a b hab
  · by_cases c : a = v ∧ b = l
    · obtain ⟨rfl, rfl⟩ := c
      obtain ⟨g1, c9, g2⟩ := h.pt a b ha hb
      rw [qset_at]
      have gx : f (nxC S T x) = (n : Int) := i2
      have G := Part.out (f' := f2) (p := p) (n := n) (x' := (l1 ++ l3).headD 0) (l1 := l1) (l2 := l3) (z := x) (x := (q a b).headD 0) (c := c9) (by rw [hq] at g2 ⊢; exact g2) hnd hp.symm gx
        (fun e => by subst e; exact hn) (fun e => ?_) (fun e => ?_) (fun y hy => ?_) (fun y hy hyp => ?_) (fun y hy => ?_) (fun y hy hyn => ?_)
      · refine ⟨?_, G.2⟩
        rw [J.h a b ha hb, g1]
        by_cases c : p = 0
        · rw [if_pos ⟨c, rfl, rfl⟩]
          have e : l1 = [] := by
            cases l1 with
            | nil => rfl
            | cons y l1 =>
              have hm : (y :: l1).getLast?.getD 0 ∈ y :: l1 := by rw [List.getLast?_eq_some_getLast (by simp)]; exact List.getLast_mem _
              rw [hp, c] at hm
              have := (h.rg a b 0 (m1 0 hm)).1
              omega
          subst e
          show _ = ((l3.headD 0 : Nat) : Int)
          rw [hn]
        · rw [if_neg fun e => c e.1, hq]
          have := pm1 c
          cases l1 with
          | nil => cases this
          | cons y l1 => rfl
      · refine ⟨?_, ?_⟩
        · rw [hq]
          cases l1 with
          | nil => exact absurd rfl e
          | cons y l1 => rfl
        · have hm : p ∈ l1 := by rw [← hp, List.getLast?_eq_some_getLast e]; exact List.getLast_mem e
          obtain ⟨r1, r2⟩ := h.rg a b p (m1 p hm)
          rw [J.n p r1 r2, if_pos rfl]
      · obtain ⟨r1, r2⟩ := h.rg a b n (m3 n (nm3 e))
        rw [J.p n r1 r2, if_pos rfl]
      · obtain ⟨r1, r2⟩ := h.rg a b y (m1 y hy)
        rw [J.p y r1 r2, if_neg (n1 y hy)]
      · obtain ⟨r1, r2⟩ := h.rg a b y (m1 y hy)
        rw [J.n y r1 r2, if_neg hyp]
      · obtain ⟨r1, r2⟩ := h.rg a b y (m3 y hy)
        rw [J.n y r1 r2, if_neg (p3 y hy)]
      · obtain ⟨r1, r2⟩ := h.rg a b y (m3 y hy)
        rw [J.p y r1 r2, if_neg hyn]
    · rw [qset_ne c, J.h a b ha hb, if_neg fun e => c e.2]
      obtain ⟨g1, c9, g2⟩ := h.pt a b ha hb
      refine ⟨g1, c9, g2.cong fun z hz => ?_⟩
      obtain ⟨r1, r2⟩ := h.rg a b z hz
      exact ⟨by rw [J.p z r1 r2, if_neg fun e => c (nq a b z hz e)], by rw [J.n z r1 r2, if_neg fun e => c (pq a b z hz e)]⟩
  · by_cases c : a = v ∧ b = l
    · obtain ⟨rfl, rfl⟩ := c
      rw [qset_at]
      exact List.nodup_append.2 ⟨d1, d5, fun y hy z hz => d3 y hy z (by simp [hz])⟩
    · rw [qset_ne c]; exact h.nd a b
  · rcases mem_qset.1 hz with ⟨_, _, hz⟩ | ⟨_, hz⟩
    · rcases List.mem_append.1 hz with hz | hz
      · exact h.rg v l z (m1 z hz)
      · exact h.rg v l z (m3 z hz)
    · exact h.rg a b z hz
  · have old : ∀ a b, z ∈ qset q v l (l1 ++ l3) a b → z ∈ q a b := fun a b hz => by
      rcases mem_qset.1 hz with ⟨e1, e2, hy⟩ | ⟨_, hy⟩
      · rw [e1, e2]
        rcases List.mem_append.1 hy with hy | hy
        · exact m1 z hy
        · exact m3 z hy
      · exact hy
    exact h.ap a b a' b' z (old a b hz) (old a' b' hz')
  · obtain ⟨a, b, g1, g2, g3, g4⟩ := h.bd z z1 z2
    have hn2 : (n : Int) ≤ 2 * S := by
      by_cases c : n = 0
      · have := hR.s1; omega
      · exact (h.rg v l n (m3 n (nm3 c))).2
    have hp2 : (p : Int) ≤ 2 * S := by
      by_cases c : p = 0
      · have := hR.s1; omega
      · exact (h.rg v l p (m1 p (pm1 c))).2
    rw [J.p z z1 z2, J.n z z1 z2]
    have A : ∃ a' : Nat, (if z = n then (p : Int) else f (pvC S T z)) = (a' : Int) ∧ (a' : Int) ≤ 2 * S := by
      by_cases c : z = n
      · exact ⟨p, if_pos c, hp2⟩
      · exact ⟨a, by rw [if_neg c]; exact g1, g2⟩
    have B : ∃ b' : Nat, (if z = p then (n : Int) else f (nxC S T z)) = (b' : Int) ∧ (b' : Int) ≤ 2 * S := by
      by_cases c : z = p
      · exact ⟨n, if_pos c, hn2⟩
      · exact ⟨b, by rw [if_neg c]; exact g3, g4⟩
    obtain ⟨a', A1, A2⟩ := A
    obtain ⟨b', B1, B2⟩ := B
    exact ⟨a', b', A1, A2, B1, B2⟩
  · have zn : z ≠ n := fun e => hz v l (by rw [qset_at, e]; simp [nm3 (by omega)])
    rw [J.p z z1 z2, if_neg zn] at hy
    have y2 : (y : Int) ≤ 2 * S := by
      obtain ⟨a, b, g1, g2, _⟩ := h.bd z z1 z2
      omega
    rw [J.n y y1 y2]
    by_cases c : y = p
    · rw [if_pos c]; omega
    · rw [if_neg c]
      by_cases cx : z = x
      · exfalso
        rw [cx, i1] at hy
        omega
      · refine h.dd z z1 z2 (fun a b hm => ?_) y y1 hy
        by_cases c2 : a = v ∧ b = l
        · obtain ⟨rfl, rfl⟩ := c2
          refine hz a b (by rw [qset_at]; rw [hq] at hm; simp [cx] at hm ⊢; exact hm)
        · exact hz a b (by rw [qset_ne c2]; exact hm)
theorem erase_at (hnd : (l1 ++ x :: l3).Nodup) : (l1 ++ x :: l3).erase x = l1 ++ l3 := by
  have h1 : x ∉ l1 := fun hx => (List.nodup_append.1 hnd).2.2 x hx x (by simp) rfl
  rw [List.erase_append_right _ h1, List.erase_cons_head]
/-- A side that isn't in a list. -/
theorem LQ.dead (h : LQ V S T f q) (hv : (v : Int) < V) (hl : (l : Int) < lv V) (h1 : 1 ≤ x) (h2 : (x : Int) ≤ 2 * S) (hd : ∀ a b, x ∉ q a b) :
    ∃ y z : Nat, f (pvC S T x) = (y : Int) ∧ (y : Int) ≤ 2 * S ∧ f (nxA V S T v l y) = (z : Int) ∧ z ≠ x := by
  obtain ⟨a, b, g1, g2, _⟩ := h.bd x h1 h2
  refine ⟨a, ?_⟩
  unfold nxA
  by_cases c : a = 0
  · refine ⟨(q v l).headD 0, g1, g2, by rw [if_pos c]; exact (h.pt v l hv hl).1, fun e => hd v l ?_⟩
    rw [← e]; exact headD_mem (by omega)
  · obtain ⟨_, b, _, _, g3, _⟩ := h.bd a (by omega) g2
    refine ⟨b, g1, g2, by rw [if_neg c]; exact g3, fun e => ?_⟩
    have := h.dd x h1 h2 hd a (by omega) g1
    rw [g3] at this
    exact this (by rw [e])
/-- Marks. -/
theorem setB_has {s : Nat} (hs : s < 4) : hasB (setB s 0 on) 0 = on := by
  have key : ∀ s < 4, ∀ on : Bool, hasB (setB s 0 on) 0 = on := by decide
  exact key s hs on
theorem MQ.turn (h : MQ V mk q) (hR : Rt V S T) (h4 : ∀ x, mk x < 4) (hv : (v : Int) < V) (hl : (l : Int) < lv V) {hd : Nat} (hh : hd ≠ 0 ↔ L ≠ []) : MQ V (mkQ mk (ndA V v l) (decide (hd ≠ 0))) (qset q v l L) := by
  intro a b ha hb
  have e0 : decide (hd ≠ 0) = decide (L ≠ []) := by
    by_cases c : L = []
    · rw [decide_eq_false (p := L ≠ []) (by simp [c]), decide_eq_false fun e => hh.1 e c]
    · rw [decide_eq_true (p := L ≠ []) c, decide_eq_true (hh.2 c)]
  rw [e0]
  by_cases c : a = v ∧ b = l
  · obtain ⟨rfl, rfl⟩ := c
    rw [qset_at]
    unfold mkQ
    by_cases e : hasB (mk (ndA V a b)) 0 = decide (L ≠ [])
    · rw [if_pos e]; exact e
    · rw [if_neg e]
      unfold mkSet
      rw [if_pos rfl]
      exact setB_has (h4 _)
  · rw [qset_ne c, ← h a b ha hb]
    unfold mkQ
    split
    · rfl
    · unfold mkSet
      rw [if_neg fun e => c (nd_inj hR ha hb hv hl e)]
/-- Which edges lie beside: which sides are in which lists. -/
def LK (q : Nat → Nat → List Nat) (bs : List E1) : Prop := ∀ v l x, x ∈ q v l ↔ ∃ e ∈ bs, e.l = l ∧ ((x = 2 * e.s + 1 ∧ e.u = v) ∨ (x = 2 * e.s + 2 ∧ e.v = v))
/-- Both lists once an edge came, or went. -/
def add2 (q : Nat → Nat → List Nat) (s u v l : Nat) : Nat → Nat → List Nat := qset (qset q u l ((2 * s + 1) :: q u l)) v l ((2 * s + 2) :: q v l)
def rem2 (q : Nat → Nat → List Nat) (s u v l : Nat) : Nat → Nat → List Nat := qset (qset q u l ((q u l).erase (2 * s + 1))) v l ((q v l).erase (2 * s + 2))
theorem mem_add2 (huv : u ≠ v) : x ∈ add2 q s u v l a b ↔ x ∈ q a b ∨ (b = l ∧ ((x = 2 * s + 1 ∧ a = u) ∨ (x = 2 * s + 2 ∧ a = v))) := by
  unfold add2
  rw [mem_qset, mem_qset]
  constructor
  · rintro (⟨e1, e2, h⟩ | ⟨_, ⟨e1, e2, h⟩ | ⟨_, h⟩⟩)
    · rcases List.mem_cons.1 h with h | h
      · exact .inr ⟨e2, .inr ⟨h, e1⟩⟩
      · exact .inl (by rw [e1, e2]; exact h)
    · rcases List.mem_cons.1 h with h | h
      · exact .inr ⟨e2, .inl ⟨h, e1⟩⟩
      · exact .inl (by rw [e1, e2]; exact h)
    · exact .inl h
  · rintro (h | ⟨e2, ⟨h, e1⟩ | ⟨h, e1⟩⟩)
    · by_cases c : a = v ∧ b = l
      · exact .inl ⟨c.1, c.2, by rw [← c.1, ← c.2]; simp [h]⟩
      · by_cases c2 : a = u ∧ b = l
        · exact .inr ⟨c, .inl ⟨c2.1, c2.2, by rw [← c2.1, ← c2.2]; simp [h]⟩⟩
        · exact .inr ⟨c, .inr ⟨c2, h⟩⟩
    · exact .inr ⟨by omega, .inl ⟨e1, e2, by simp [h]⟩⟩
    · exact .inl ⟨e1, e2, by simp [h]⟩
theorem mem_rem2 (hq : ∀ a b, (q a b).Nodup) : x ∈ rem2 q s u v l a b ↔ x ∈ q a b ∧ ¬ (b = l ∧ ((x = 2 * s + 1 ∧ a = u ∧ u ≠ v) ∨ (x = 2 * s + 2 ∧ a = v))) := by
  unfold rem2
  rw [mem_qset, mem_qset]
  rw [List.Nodup.mem_erase_iff (hq v l), List.Nodup.mem_erase_iff (hq u l)]
  constructor
  · rintro (⟨e1, e2, h, h2⟩ | ⟨c, ⟨e1, e2, h, h2⟩ | ⟨c2, h⟩⟩)
    · exact ⟨by rw [e1, e2]; exact h2, by omega⟩
    · exact ⟨by rw [e1, e2]; exact h2, by omega⟩
    · exact ⟨h, by omega⟩
  · rintro ⟨h, h2⟩
    by_cases c : a = v ∧ b = l
    · exact .inl ⟨c.1, c.2, by omega, by rw [← c.1, ← c.2]; exact h⟩
    · by_cases c2 : a = u ∧ b = l
      · exact .inr ⟨c, .inl ⟨c2.1, c2.2, by omega, by rw [← c2.1, ← c2.2]; exact h⟩⟩
      · exact .inr ⟨c, .inr ⟨c2, h⟩⟩
/-- An edge that came. -/
theorem LK.add (h : LK q bs) {e : E1} (huv : e.u ≠ e.v) : LK (add2 q e.s e.u e.v e.l) (bs ++ [e]) := fun a b x => by
  rw [mem_add2 huv, h a b x]
  constructor
  · rintro (⟨e', he, h1⟩ | ⟨h1, h2⟩)
    · exact ⟨e', by simp [he], h1⟩
    · exact ⟨e, by simp, h1.symm, by omega⟩
  · rintro ⟨e', he, h1, h2⟩
    rcases List.mem_append.1 he with he | he
    · exact .inl ⟨e', he, h1, h2⟩
    · rw [List.mem_singleton.1 he] at h1 h2
      exact .inr ⟨h1.symm, by omega⟩
/-- An edge that went. -/
theorem LK.rem (h : LK q bs) (hq : ∀ a b, (q a b).Nodup) (hs : bs.Pairwise fun a b => a.s ≠ b.s ∧ ¬ (a.u = b.u ∧ a.v = b.v)) {i : Nat} {e : E1} (hi : bs[i]? = some e) (huv : e.u ≠ e.v) : LK (rem2 q e.s e.u e.v e.l) (bs.eraseIdx i) := fun a b x => by
  have uniq : ∀ e' ∈ bs.eraseIdx i, e'.s ≠ e.s := fun e' he => by
    obtain ⟨j, hj, ej⟩ := mem_erase_of he
    rcases Nat.lt_or_gt_of_ne hj with c | c
    · have ⟨h1, e1⟩ := List.getElem?_eq_some_iff.1 ej
      have ⟨h2, e2⟩ := List.getElem?_eq_some_iff.1 hi
      have := (List.pairwise_iff_getElem.1 hs j i h1 h2 c).1
      rw [e1, e2] at this; exact this
    · have ⟨h1, e1⟩ := List.getElem?_eq_some_iff.1 ej
      have ⟨h2, e2⟩ := List.getElem?_eq_some_iff.1 hi
      have := (List.pairwise_iff_getElem.1 hs i j h2 h1 c).1
      rw [e1, e2] at this; exact this.symm
  rw [mem_rem2 hq, h a b x]
  constructor
  · rintro ⟨⟨e', he, h1, h2⟩, h3⟩
    obtain ⟨j, hj⟩ := List.mem_iff_getElem?.1 he
    by_cases c : j = i
    · subst c
      rw [hi] at hj
      injection hj with hj
      subst hj
      exact absurd ⟨h1.symm, by omega⟩ h3
    · exact ⟨e', mem_erase_is hj c, h1, h2⟩
  · rintro ⟨e', he, h1, h2⟩
    exact ⟨⟨e', List.mem_of_mem_eraseIdx he, h1, h2⟩, by have := uniq e' he; omega⟩
/-- The document's lists: slots. -/
def dl (q : Nat → Nat → List Nat) (v l : Nat) : List Nat := (q v l).map fun x => (x - 1) / 2
theorem dl_add : dl (add2 q s u v l) a b = if b = l ∧ (a = u ∨ a = v) then s :: dl q a b else dl q a b := by
  unfold dl add2 qset
  by_cases c : a = v ∧ b = l
  · rw [if_pos c, if_pos ⟨c.2, .inr c.1⟩, List.map_cons, ← c.1, ← c.2]
    congr 1; omega
  · rw [if_neg c]
    by_cases c2 : a = u ∧ b = l
    · rw [if_pos c2, if_pos ⟨c2.2, .inl c2.1⟩, List.map_cons, ← c2.1, ← c2.2]
      congr 1; omega
    · rw [if_neg c2, if_neg (by omega)]
theorem map_erase {L : List Nat} {x s : Nat} (hn : L.Nodup) (hx : (x - 1) / 2 = s) (hL : ∀ y ∈ L, (y - 1) / 2 = s → y = x) : (L.erase x).map (fun x => (x - 1) / 2) = (L.map fun x => (x - 1) / 2).filter fun y => y ≠ s := by
  rw [List.Nodup.erase_eq_filter hn, List.filter_map]
  congr 1
  refine List.filter_congr fun y hy => ?_
  by_cases c : y = x
  · subst c; simp [hx]
  · have : (y - 1) / 2 ≠ s := fun e => c (hL y hy e)
    simp [c, this]
theorem filter_none {L : List Nat} {s : Nat} (hL : ∀ y ∈ L, (y - 1) / 2 ≠ s) : (L.map fun x => (x - 1) / 2).filter (fun y => y ≠ s) = L.map fun x => (x - 1) / 2 := by
  rw [List.filter_eq_self]
  intro y hy
  obtain ⟨z, hz, rfl⟩ := List.mem_map.1 hy
  simpa using hL z hz
theorem dl_rem (h : LK q bs) (hq : ∀ a b, (q a b).Nodup) (h1 : ∀ a b x, x ∈ q a b → 1 ≤ x) {e : E1} (he : e ∈ bs) (huv : e.u ≠ e.v) (hu : ∀ e' ∈ bs, e'.s = e.s → e' = e) : dl (rem2 q e.s e.u e.v e.l) a b = if b = e.l ∧ (a = e.u ∨ a = e.v) then (dl q a b).filter (fun y => y ≠ e.s) else dl q a b := by
  have side : ∀ a b y, y ∈ q a b → (y - 1) / 2 = e.s → b = e.l ∧ ((y = 2 * e.s + 1 ∧ a = e.u) ∨ (y = 2 * e.s + 2 ∧ a = e.v)) := fun a b y hy ey => by
    obtain ⟨e', he', g1, g2⟩ := (h a b y).1 hy
    have := h1 a b y hy
    have e1 : e' = e := hu e' he' (by omega)
    subst e1
    omega
  unfold dl rem2 qset
  by_cases c : a = e.v ∧ b = e.l
  · rw [if_pos c, if_pos ⟨c.2, .inr c.1⟩, ← c.1, ← c.2]
    refine map_erase (hq a b) (by omega) fun y hy ey => ?_
    have := side a b y hy ey; omega
  · rw [if_neg c]
    by_cases c2 : a = e.u ∧ b = e.l
    · rw [if_pos c2, if_pos ⟨c2.2, .inl c2.1⟩, ← c2.1, ← c2.2]
      refine map_erase (hq a b) (by omega) fun y hy ey => ?_
      have := side a b y hy ey; omega
    · rw [if_neg c2, if_neg (by omega)]
end
end Go.Proofs.Ytaooglagddphnaa
