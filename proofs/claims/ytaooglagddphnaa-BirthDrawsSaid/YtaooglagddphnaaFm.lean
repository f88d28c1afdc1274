/- Maps as sets of entries: a look, a store, a delete. -/
import Derived.Test.YtaooglagddphnaaEdA
import Derived.Maps.Own
import Derived.WideKeyPair
namespace Go.Proofs.Ytaooglagddphnaa
open Go.RowKit

set_option maxRecDepth 100000

/-- Block b is a map of at most n entries: these. -/
def FM (k : TypeId) (w : World) (b n : Nat) (G : Value → Value → Prop) : Prop :=
  ∃ es clock, w.heap[b]? = some (.map es clock) ∧ es.size ≤ n ∧ (∀ e ∈ es.toList, ∃ l, keyOf Try.prog k e.key = some l) ∧ es.toList.Pairwise (fun a c => a.key ≠ c.key) ∧ ∀ key val, G key val ↔ ∃ e ∈ es.toList, e.key = key ∧ e.val = val
section
variable {k t e : TypeId} {w w' : World} {b n : Nat} {G G' : Value → Value → Prop} {key v z : Value} {kl : Lit}
theorem FM.made (k : TypeId) (w : World) : FM k (w.alloc (.map #[] 0)) w.heap.size 0 fun _ _ => False :=
  ⟨#[], 0, (MapKept.heap_alloc w _).1, Nat.le_refl _, by simp, by simp, by simp⟩
theorem FM.lt (h : FM k w b n G) : b < w.heap.size := by
  obtain ⟨es, clock, hb, _⟩ := h
  exact (Array.getElem?_eq_some_iff.1 hb).1
theorem FM.keep (h : FM k w b n G) (hb : w'.heap[b]? = w.heap[b]?) : FM k w' b n G := by
  obtain ⟨es, clock, h1, r⟩ := h
  exact ⟨es, clock, hb.trans h1, r⟩
theorem FM.more {m : Nat} (h : FM k w b n G) (hm : n ≤ m) : FM k w b m G := by
  obtain ⟨es, clock, h1, h2, r⟩ := h
  exact ⟨es, clock, h1, Nat.le_trans h2 hm, r⟩
theorem FM.ne_blk (h : FM k w b n G) {i : Nat} {ty : TypeId} {cs : Array Value} (hi : Blk w i ty cs) : b ≠ i := by
  rintro rfl
  obtain ⟨es, clock, h1, _⟩ := h
  unfold Blk at hi
  rw [hi] at h1
  cases h1
theorem FM.look_some (c : Bool) (h : FM k w b n G) (K : Go.Maps.Keyed Try.prog k) (ht : Try.prog.underlying t = some (.map k e)) (hkey : keyOf Try.prog k key = some kl) (hG : G key v) :
    (Instr.lookup t (.map (some b)) key c).run Try.prog w = .ok (if c then .tuple #[v, .bool true] else v) w := by
  obtain ⟨es, clock, hb, _, h1, h2, h3⟩ := h
  obtain ⟨e1, m1, k1, v1⟩ := (h3 key v).1 hG
  rcases K.find w hkey es.toList h1 with ⟨_, f2⟩ | ⟨j, e0, f1, f2, f3⟩
  · exact absurd k1 (f2 e1 m1)
  · have m0 : e0 ∈ es.toList := List.mem_of_getElem? f2
    have e01 : e0 = e1 := by
      obtain ⟨i, hi⟩ := List.mem_iff_getElem?.1 m1
      rcases Nat.lt_trichotomy i j with c | c | c
      · have ⟨g1, g2⟩ := List.getElem?_eq_some_iff.1 hi
        have ⟨g3, g4⟩ := List.getElem?_eq_some_iff.1 f2
        have := List.pairwise_iff_getElem.1 h2 i j g1 g3 c
        rw [g2, g4, k1, f3] at this; exact absurd rfl this
      · subst c; rw [hi] at f2; injection f2 with f2; exact f2.symm
      · have ⟨g1, g2⟩ := List.getElem?_eq_some_iff.1 hi
        have ⟨g3, g4⟩ := List.getElem?_eq_some_iff.1 f2
        have := List.pairwise_iff_getElem.1 h2 j i g3 g1 c
        rw [g2, g4, k1, f3] at this; exact absurd rfl this
    have hv : e0.val = v := by rw [e01]; exact v1
    simp [Instr.lookup, run_underlying ht, MapKept.run_getObj_map hb, K.check w _ hkey, f1, Result.andThen, hv]
theorem FM.look_none (c : Bool) (h : FM k w b n G) (K : Go.Maps.Keyed Try.prog k) (ht : Try.prog.underlying t = some (.map k e)) (hz : (zeroValue e).run Try.prog w = .ok z w) (hkey : keyOf Try.prog k key = some kl) (hG : ∀ v, ¬ G key v) :
    (Instr.lookup t (.map (some b)) key c).run Try.prog w = .ok (if c then .tuple #[z, .bool false] else z) w := by
  obtain ⟨es, clock, hb, _, h1, h2, h3⟩ := h
  rcases K.find w hkey es.toList h1 with ⟨f1, _⟩ | ⟨j, e0, f1, f2, f3⟩
  · simp [Instr.lookup, run_underlying ht, MapKept.run_getObj_map hb, K.check w _ hkey, f1, hz, Result.andThen]
  · exact absurd ((h3 key e0.val).2 ⟨e0, List.mem_of_getElem? f2, f3, rfl⟩) (hG _)
theorem FM.store (h : FM k w b n G) (K : Go.Maps.Keyed Try.prog k) (ht : Try.prog.underlying t = some (.map k e)) (hkey : keyOf Try.prog k key = some kl) (hG : ∀ x u, G' x u ↔ (x = key ∧ u = v) ∨ (x ≠ key ∧ G x u)) :
    ∃ w', (Instr.mapUpdate t (.map (some b)) key v).run Try.prog w = .ok () w' ∧ FM k w' b (n + 1) G' ∧ w.grownBy w' (some b) := by
  obtain ⟨es, clock, hb, hsz, h1, h2, h3⟩ := h
  have gr : ∀ o, w.grownBy (ChangeMaps.setBlock w b o) (some b) := fun o => ⟨rfl, rfl, rfl, by simp [ChangeMaps.setBlock], fun i _ hi => ChangeMaps.heap_setBlock_other hb _ (fun e => hi (by rw [e]))⟩
  rcases K.find w hkey es.toList h1 with ⟨f1, f2⟩ | ⟨j, e0, f1, f2, f3⟩
  · refine ⟨ChangeMaps.setBlock w b (.map (es.push ⟨key, v, clock⟩) (clock + 1)), ?_, ⟨es.push ⟨key, v, clock⟩, clock + 1, ChangeMaps.heap_setBlock_same hb _, by simp; omega, ?_, ?_, ?_⟩, gr _⟩
    · simp [Instr.mapUpdate, run_underlying ht, MapKept.run_getObj_map hb, K.check w false hkey, f1, MapKept.run_setObj_map _ hb, Result.andThen, ChangeMaps.setBlock]
    · intro x hx
      simp only [Array.toList_push, List.mem_append, List.mem_singleton] at hx
      rcases hx with hx | rfl
      · exact h1 x hx
      · exact ⟨_, hkey⟩
    · rw [Array.toList_push]
      exact List.pairwise_append.2 ⟨h2, List.pairwise_singleton _ _, fun a ha c hc => by rw [List.mem_singleton.1 hc]; exact f2 a ha⟩
    · intro x u
      rw [hG, h3, Array.toList_push]
      constructor
      · rintro (⟨e1, e2⟩ | ⟨_, y, hy, e1, e2⟩)
        · exact ⟨_, List.mem_append_right _ (List.mem_singleton.2 rfl), e1.symm, e2.symm⟩
        · exact ⟨y, List.mem_append_left _ hy, e1, e2⟩
      · rintro ⟨y, hy, e1, e2⟩
        rcases List.mem_append.1 hy with hy | hy
        · exact .inr ⟨fun e => f2 y hy (e1.trans e), y, hy, e1, e2⟩
        · rw [List.mem_singleton.1 hy] at e1 e2; exact .inl ⟨e1.symm, e2.symm⟩
  · have hj : es[j]? = some e0 := by simpa using f2
    have hjl := (List.getElem?_eq_some_iff.1 f2).1
    have hlist : (es.modify j (fun e' => { e' with key := key, val := v })).toList = es.toList.set j { e0 with key := key, val := v } := by rw [Array.toList_modify, ChangeMaps.modify_eq_set _ _ _ _ f2]
    have other : ∀ i y, i ≠ j → es.toList[i]? = some y → y.key ≠ key := fun i y hi hy e => by
      have ⟨g1, g2⟩ := List.getElem?_eq_some_iff.1 hy
      have ⟨g3, g4⟩ := List.getElem?_eq_some_iff.1 f2
      rcases Nat.lt_or_gt_of_ne hi with c | c
      · have := List.pairwise_iff_getElem.1 h2 i j g1 g3 c
        rw [g2, g4, e, f3] at this; exact this rfl
      · have := List.pairwise_iff_getElem.1 h2 j i g3 g1 c
        rw [g2, g4, e, f3] at this; exact this rfl
    refine ⟨ChangeMaps.setBlock w b (.map (es.modify j (fun e' => { e' with key := key, val := v })) clock), ?_, ⟨_, clock, ChangeMaps.heap_setBlock_same hb _, by simp; omega, ?_, ?_, ?_⟩, gr _⟩
    · simp [Instr.mapUpdate, run_underlying ht, MapKept.run_getObj_map hb, K.check w false hkey, f1, hj, f3, K.stays w hkey, MapKept.run_setObj_map _ hb, Result.andThen, ChangeMaps.setBlock]
    · intro x hx
      rw [hlist] at hx
      rcases mem_set_of hx with rfl | ⟨i, _, hi⟩
      · exact ⟨_, hkey⟩
      · exact h1 x (List.mem_of_getElem? hi)
    · rw [hlist, List.pairwise_iff_getElem]
      intro i1 i2 g1 g2 hlt
      rw [List.length_set] at g1 g2
      rw [List.getElem_set, List.getElem_set]
      by_cases c1 : j = i1
      · rw [if_pos c1, if_neg (by omega)]
        exact fun e => other i2 _ (by omega) (List.getElem?_eq_getElem g2) e.symm
      · rw [if_neg c1]
        by_cases c2 : j = i2
        · rw [if_pos c2]
          exact fun e => other i1 _ (by omega) (List.getElem?_eq_getElem g1) e
        · rw [if_neg c2]; exact List.pairwise_iff_getElem.1 h2 i1 i2 g1 g2 hlt
    · intro x u
      rw [hG, h3, hlist]
      constructor
      · rintro (⟨e1, e2⟩ | ⟨hne, y, hy, e1, e2⟩)
        · exact ⟨_, List.mem_iff_getElem?.2 ⟨j, List.getElem?_set_self hjl⟩, e1.symm, e2.symm⟩
        · obtain ⟨i, hi⟩ := List.mem_iff_getElem?.1 hy
          have hij : i ≠ j := fun e => by
            subst e; rw [f2] at hi; injection hi with hi; subst hi; exact hne (e1.symm.trans f3)
          exact ⟨y, List.mem_iff_getElem?.2 ⟨i, by rw [List.getElem?_set_ne (Ne.symm hij)]; exact hi⟩, e1, e2⟩
      · rintro ⟨y, hy, e1, e2⟩
        rcases mem_set_of hy with rfl | ⟨i, hij, hi⟩
        · exact .inl ⟨e1.symm, e2.symm⟩
        · exact .inr ⟨fun e => other i y hij hi (e1.trans e), y, List.mem_of_getElem? hi, e1, e2⟩
theorem FM.drop (h : FM k w b n G) (K : Go.Maps.Keyed Try.prog k) (ht : Try.prog.underlying t = some (.map k e)) (hkey : keyOf Try.prog k key = some kl) (ty : TypeId) (hG : ∀ x u, G' x u ↔ (x ≠ key ∧ G x u)) :
    ∃ w', (Builtin.delete_ #[t, k] ty #[.map (some b), key]).run Try.prog w = .ok (.tuple #[]) w' ∧ FM k w' b n G' ∧ w.grownBy w' (some b) := by
  obtain ⟨es, clock, hb, hsz, h1, h2, h3⟩ := h
  have gr : ∀ o, w.grownBy (ChangeMaps.setBlock w b o) (some b) := fun o => ⟨rfl, rfl, rfl, by simp [ChangeMaps.setBlock], fun i _ hi => ChangeMaps.heap_setBlock_other hb _ (fun e => hi (by rw [e]))⟩
  rcases K.find w hkey es.toList h1 with ⟨f1, f2⟩ | ⟨j, e0, f1, f2, f3⟩
  · refine ⟨ChangeMaps.setBlock w b (.map es clock), ?_, ⟨es, clock, ChangeMaps.heap_setBlock_same hb _, hsz, h1, h2, fun x u => ?_⟩, gr _⟩
    · simp [Builtin.delete_, run_underlying ht, MapKept.run_getObj_map hb, K.check w _ hkey, f1, MapKept.run_setObj_map _ hb, Result.andThen, ChangeMaps.setBlock]
    · rw [hG, h3]
      exact ⟨fun h => h.2, fun ⟨y, hy, e1, e2⟩ => ⟨fun e => f2 y hy (e1.trans e), y, hy, e1, e2⟩⟩
  · have hjl := (List.getElem?_eq_some_iff.1 f2).1
    have hjs : j < es.size := by simpa using hjl
    have hsub : (es.eraseIdxIfInBounds j).toList = es.toList.eraseIdx j := by
      unfold Array.eraseIdxIfInBounds
      rw [dif_pos hjs]
      simp
    have hsz2 := MapFrom.size_erase es j
    have other : ∀ i y, i ≠ j → es.toList[i]? = some y → y.key ≠ key := fun i y hi hy e => by
      have ⟨g1, g2⟩ := List.getElem?_eq_some_iff.1 hy
      have ⟨g3, g4⟩ := List.getElem?_eq_some_iff.1 f2
      rcases Nat.lt_or_gt_of_ne hi with c | c
      · have := List.pairwise_iff_getElem.1 h2 i j g1 g3 c
        rw [g2, g4, e, f3] at this; exact this rfl
      · have := List.pairwise_iff_getElem.1 h2 j i g3 g1 c
        rw [g2, g4, e, f3] at this; exact this rfl
    refine ⟨ChangeMaps.setBlock w b (.map (es.eraseIdxIfInBounds j) clock), ?_, ⟨_, clock, ChangeMaps.heap_setBlock_same hb _, by omega, fun x hx => ?_, ?_, fun x u => ?_⟩, gr _⟩
    · simp [Builtin.delete_, run_underlying ht, MapKept.run_getObj_map hb, K.check w _ hkey, f1, MapKept.run_setObj_map _ hb, Result.andThen, ChangeMaps.setBlock]
    · rw [hsub] at hx; exact h1 x (List.mem_of_mem_eraseIdx hx)
    · rw [hsub]; exact h2.sublist (List.eraseIdx_sublist _ _)
    · rw [hG, h3, hsub]
      constructor
      · rintro ⟨hne, y, hy, e1, e2⟩
        obtain ⟨i, hi⟩ := List.mem_iff_getElem?.1 hy
        have hij : i ≠ j := fun e => by
          subst e; rw [f2] at hi; injection hi with hi; subst hi; exact hne (e1.symm.trans f3)
        exact ⟨y, mem_erase_is hi hij, e1, e2⟩
      · rintro ⟨y, hy, e1, e2⟩
        obtain ⟨i, hij, hi⟩ := mem_erase_of hy
        exact ⟨fun e => other i y hij hi (e1.trans e), y, List.mem_of_getElem? hi, e1, e2⟩
end
end Go.Proofs.Ytaooglagddphnaa
