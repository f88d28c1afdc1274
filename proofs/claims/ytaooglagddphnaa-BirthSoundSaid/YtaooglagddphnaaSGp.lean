/- Gp: what BiPSound leans on. Printed by wip/tools/slim13.py. -/
import Derived.Test.YtaooglagddphnaaSGo

namespace Go.Proofs.Ytaooglagddphnaa
open Go.RowKit

set_option maxRecDepth 100000

/-- What is right of a book's cells. -/
structure Sd13 (b : BkV) (cv : Nat → Int) (g : Mg9) (mk : Nat → Nat) (ts : List Tp) (bs : List E1) (q : Nat → Nat → List Nat) : Prop where
  er : ER b.V b.S b.T cv bs
  lf : LF b.V b.S b.T cv mk ts bs q
  bt : BT b cv g mk ts
/-- The edges as the document tells them. -/
structure Es13 (b : BkV) (bs es : List E1) (q : Nat → Nat → List Nat) : Prop where
  mem : ∀ e, e ∈ es ↔ e ∈ bs
  un : es.Pairwise fun a b => a.s ≠ b.s ∧ ¬ (a.u = b.u ∧ a.v = b.v)
  en : ∀ e ∈ es, e.u < e.v ∧ (e.v : Int) < b.V ∧ (e.s : Int) < b.S ∧ (e.l : Int) < lv b.V
  ln : es.length ≤ 48
  lk : LK q (es.filter fun e => !e.t)
  ql : ∀ v l, (((q v l).length : Nat) : Int) ≤ b.S
section
variable {w : World} {b : BkV} {cv : Nat → Int} {g : Mg9} {mk : Nat → Nat} {ts : List Tp} {bs es : List E1} {q : Nat → Nat → List Nat} {L : Nat}
theorem ER.all_perm {V S T : Int} {f : Nat → Int} (h : ER V S T f bs) : (edAll bs V.toNat V.toNat).Perm bs :=
  edAll_perm h.un fun e he => by have := h.ok e he; omega
theorem Sd13.edges (h : Sd13 b cv g mk ts bs q) (hR : Rt b.V b.S b.T) (he : edAll bs b.V.toNat b.V.toNat = es) : Es13 b bs es q := by
  have hp := h.er.all_perm
  rw [he] at hp
  have hm : ∀ e, e ∈ es ↔ e ∈ bs := fun e => hp.mem_iff
  refine ⟨hm, ?_, fun e he => h.er.ok e ((hm e).1 he), ?_, ?_, h.lf.qlen hR h.er.un fun e he => by have := h.er.ok e he; omega⟩
  · exact (hp.pairwise_iff fun {a b} h => ⟨Ne.symm h.1, fun e => h.2 ⟨e.1.symm, e.2.symm⟩⟩).2 h.er.un
  · have h1 := h.er.len_le
    have h2 := hp.length_eq
    have := hR.s2
    omega
  · exact h.lf.lk.mem fun e => by rw [List.mem_filter, List.mem_filter, hm]
theorem Sd13.row (h : Sd13 b cv g mk ts bs q) (B : Bk w b cv) (he : Es13 b bs es q) (hL : (L : Int) < lv b.V) : ∀ t ∈ TLv b.V L ts b.na, Lvl13 b.V b.S L t.row ∧ Ar13 b.V b.S L (es.foldl (grE13 L) (List.replicate b.S.toNat none)) t.row := by
  intro t ht
  obtain ⟨gr, hV, hE⟩ := h.lf.fo
  obtain ⟨rows, hv⟩ := hV L hL
  have hg : es.foldl (grE13 L) (List.replicate b.S.toNat none) = gr L := by
    refine Lnk.uniq (foldG_lnk (he.un.imp fun h => h.1) fun e hm => by have := he.en e hm; omega) (hE L hL) (fun s a c => ?_) ?_
    · rw [mem_tE, mem_tE]
      constructor
      · rintro ⟨e, hm, h⟩
        exact ⟨e, (he.mem e).1 hm, h⟩
      · rintro ⟨e, hm, h⟩
        exact ⟨e, (he.mem e).2 hm, h⟩
    · rw [grs13_len, List.length_replicate, hv.len]
  rw [hg]
  obtain ⟨h1, h2, h3⟩ := (TLv_mem h.bt.fi).1 ht
  have hr := h.bt.fi.root_in h1
  obtain ⟨z, hz⟩ : ∃ z, t.root = z + 1 := ⟨t.root - 1, by omega⟩
  obtain ⟨nm, _, hnm⟩ := B.al z (by omega)
  exact hv.ar_any B.hR hL h.bt.fi hnm h1 hz h3
theorem Sd13.marked (h : Sd13 b cv g mk ts bs q) (B : Bk w b cv) (he : Es13 b bs es q) : BT b cv g (es.foldl (markE b.V) fun _ => 0) ts :=
  ⟨h.bt.fi.marks (marks_lt es _ fun _ => (by decide : (0 : Nat) < 4)) fun x h1 h2 => by
    obtain ⟨z, rfl⟩ : ∃ z, x = z + 1 := ⟨x - 1, by omega⟩
    obtain ⟨nm, _, hnm⟩ := B.al z (by have h3 : b.na = nN b.V b.S := B.ha; omega)
    exact marks_eq B.hR h.er.ok h.lf h.bt.fi.hm he.mem hnm, h.bt.cl, h.bt.pl, h.bt.lv⟩
/-- Along the edges: how often a slot is there. -/
def KU13 (w1 : World) (ub nS : Nat) (es : List E1) (i : Value) (W : World) : Prop := ∃ k, k ≤ es.length ∧ i = .int .i64 ((k : Nat) : Int) ∧ Cn13 W ub nS (fun s => ((es.take k).map E1.s).count s) ∧ Below w1.heap.size w1 W
def KT13 (w1 : World) (n : Nat) (i : Value) (W : World) : Prop := ∃ k, k ≤ n ∧ i = .int .i64 ((k : Nat) : Int) ∧ Below w1.heap.size w1 W
theorem used_next {k : Nat} {x : E1} (hx : es[k]? = some x) (i : Nat) : ((es.take (k + 1)).map E1.s).count i = ((es.take k).map E1.s).count i + if i = x.s then 1 else 0 := by
  rw [List.take_add_one, hx]
  show ((es.take k ++ [x]).map E1.s).count i = _
  rw [List.map_append, List.count_append]
  congr 1
  by_cases e : i = x.s
  · simp [e]
  · simp [e, Ne.symm e]
theorem used_one (h : es.Pairwise fun a b => a.s ≠ b.s ∧ ¬ (a.u = b.u ∧ a.v = b.v)) (i : Nat) : (es.map E1.s).count i ≤ 1 := by
  refine List.nodup_iff_count.1 ?_ i
  unfold List.Nodup
  rw [List.pairwise_map]
  exact h.imp fun h => h.1
end

end Go.Proofs.Ytaooglagddphnaa
