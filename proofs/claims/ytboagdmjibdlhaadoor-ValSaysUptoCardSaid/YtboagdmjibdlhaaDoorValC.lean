/- A walk in memory, and the contracts of what it is made of. -/
import Derived.Test.YtboagdmjibdlhaaDoorValB
import Derived.LaidEqlPtr
namespace Go.Proofs.YtboagdmjibdlhaaDoor
open Go.RowKit

theorem flat_at : ∀ (L : List Fr) (i : Nat), (L.flatMap Fr.flat)[i * 2]? = L[i]?.map (fun f => Value.slice f.a f.n f.c) ∧ (L.flatMap Fr.flat)[i * 2 + 1]? = L[i]?.map (fun f => Value.int .i64 (f.k : Int))
  | [], i => by simp
  | f :: L, 0 => by simp [Fr.flat]
  | f :: L, i + 1 => by
    have h := flat_at L i
    have e1 : (i + 1) * 2 = i * 2 + 1 + 1 := by omega
    rw [List.flatMap_cons, e1]
    simp only [Fr.flat, List.cons_append, List.nil_append, List.getElem?_cons_succ]
    exact h

theorem flat_length : ∀ (L : List Fr), (L.flatMap Fr.flat).length = L.length * 2
  | [] => rfl
  | f :: L => by
    rw [List.flatMap_cons, List.length_append, flat_length L]
    simp [Fr.flat]
    omega

/-- A row without its last items. -/
theorem row_shorter {w w' : World} {B q n n' cap : Nat} {e : TypeId} {L L' : List Value} (h : w.ownsRow B e 2 (.slice (some ⟨q, 0, none⟩) n cap) n L) (hn : n' ≤ n) (hL : L' = L.take (n' * 2)) (hq : w'.heap[q]? = w.heap[q]?) :
    w'.ownsRow B e 2 (.slice (some ⟨q, 0, none⟩) n' cap) n' L' := by
  subst hL
  rcases h.2 with ⟨h', _⟩ | ⟨g, c, cur, h', hb, hg, hnc, hcm, hcs, htake⟩
  · simp at h'
  · simp only [Value.slice.injEq, Option.some.injEq, Addr.mk.injEq, and_true, true_and] at h'
    obtain ⟨rfl, rfl⟩ := h'
    refine ⟨by rw [List.length_take, h.1]; omega, .inr ⟨q, cap, cur, rfl, hb, hq.trans hg, by omega, hcm, hcs, ?_⟩⟩
    rw [← htake, List.take_take]
    congr 1
    omega

/-- A walk in memory. -/
structure Wk (w : World) (B p q cap m : Nat) (st : List Fr) : Prop where
  own : Blk w p 79 #[.slice (some ⟨q, 0, none⟩) st.length cap, .int .i64 (m : Int)]
  path : w.ownsRow B 76 2 (.slice (some ⟨q, 0, none⟩) st.length cap) st.length (st.reverse.flatMap Fr.flat)
  mark : m < st.length
  nest : Nest w st
  few : st.length + (rem st).length ≤ 1000000000
  big : st.length ≤ cap ∧ cap ≤ maxLen
  base : B ≤ p

section
variable {B p q cap m : Nat} {w : World}

theorem Wk.c0 {st : List Fr} (A : Wk w B p q cap m st) : w.cell? ⟨p, 0, none⟩ = some (.slice (some ⟨q, 0, none⟩) st.length cap) := A.own.cell 0
theorem Wk.c1 {st : List Fr} (A : Wk w B p q cap m st) : w.cell? ⟨p, 1, none⟩ = some (.int .i64 (m : Int)) := A.own.cell 1
theorem Wk.fz {st : List Fr} (A : Wk w B p q cap m st) (i : Nat) : w.frozen? ⟨p, i, none⟩ = false := A.own.frozen i
theorem Wk.at_ {st : List Fr} (A : Wk w B p q cap m st) (j : Nat) (hj : j < st.length * 2) : w.cell? ⟨q, j, none⟩ = (st.reverse.flatMap Fr.flat)[j]? := A.path.cellAt j hj
theorem Wk.last {f : Fr} {r : List Fr} (A : Wk w B p q cap m (f :: r)) : w.cell? ⟨q, r.length * 2, none⟩ = some (.slice f.a f.n f.c) ∧ w.cell? ⟨q, r.length * 2 + 1, none⟩ = some (.int .i64 (f.k : Int)) := by
  have e : (f :: r).reverse[r.length]? = some f := by simp
  have h := flat_at (f :: r).reverse r.length
  rw [e] at h
  exact ⟨(A.at_ _ (by simp)).trans h.1, (A.at_ _ (by simp; omega)).trans h.2⟩
theorem Wk.marked {st : List Fr} (A : Wk w B p q cap m st) : ∃ M ∈ st, w.cell? ⟨q, m * 2, none⟩ = some (.slice M.a M.n M.c) := by
  have hm := A.mark
  have hl : m < st.reverse.length := by simpa using hm
  refine ⟨st.reverse[m], List.mem_reverse.1 (List.getElem_mem hl), ?_⟩
  rw [A.at_ _ (by omega), (flat_at st.reverse m).1, List.getElem?_eq_getElem hl]
  rfl
theorem Wk.q_lt {st : List Fr} (A : Wk w B p q cap m st) : q < w.heap.size := (A.path.lt q rfl).2
theorem Wk.q_blk {st : List Fr} (A : Wk w B p q cap m st) : ∃ cs, Blk w q 76 cs := by
  rcases A.path.2 with ⟨h, _⟩ | ⟨g, c, cur, h, _, hg, _⟩
  · simp at h
  · simp at h
    obtain ⟨rfl, _⟩ := h
    exact ⟨cur, hg⟩
theorem Wk.pq {st : List Fr} (A : Wk w B p q cap m st) : p ≠ q := by
  obtain ⟨cs, hc⟩ := A.q_blk
  exact A.own.ne_ hc (by decide)
theorem Wk.keeps {w' : World} {st : List Fr} (A : Wk w B p q cap m st) (ho : Only p q w w') : Keeps w w' := by
  obtain ⟨cs, hc⟩ := A.q_blk
  exact Keeps.only ho A.own hc (by decide) (by decide)
end

/-- What two lists in memory tell when they are looked at. -/
def Falsely (w : World) (e : Ending) (w' : World) : Prop := e = .returned (.bool false) ∧ ∃ k, w' = w.drewN k

theorem sm_len (a a' : Option Addr) (n c n' c' : Nat) (w : World) (h : ((n : Int) == (n' : Int)) = false) :
    Calls Tryd.prog 51 #[.slice a n c, .slice a' n' c'] w (Falsely w) := by
  go_enter Tryd.func51, Tryd.ntmps51
  go_wp2_with fail
  go_quiet (fail)
  go_wp2_with fail
  go_ret
  exact ⟨rfl, _, rfl⟩

theorem sm_zero (a a' : Option Addr) (c c' : Nat) (w : World) :
    Calls Tryd.prog 51 #[.slice a 0 c, .slice a' 0 c'] w (Falsely w) := by
  go_enter Tryd.func51, Tryd.ntmps51
  go_wp2_with fail
  go_quiet (fail)
  go_wp2_with fail
  go_ret
  exact ⟨rfl, _, rfl⟩

theorem eql_far {g g' : Nat} {cs ds : Array Value} {w : World} (hg : g ≠ g') (h : VBlk w g cs) (h' : VBlk w g' ds) :
    (binOp .eql 94 (.pointer (some ⟨g, 0, none⟩)) (.pointer (some ⟨g', 0, none⟩))).run Tryd.prog w = .ok (.bool false) w := by
  obtain ⟨j, hj, hs⟩ : ∃ j, Tryd.prog.info? 20 = some j ∧ j.size ≠ 0 := by
    have h : (Tryd.prog.info? 20).map (fun i => i.size) = some 1 := by kernel_rfl
    cases hi : Tryd.prog.info? 20 with
    | none => rw [hi] at h; cases h
    | some j => rw [hi] at h; simp at h; exact ⟨j, rfl, by omega⟩
  exact run_eql_ptr_other w Tryd.underlying94 hj hs (by intro e; injection e with e; exact hg e) h h'

theorem sm_far (g g' n c c' : Nat) (w : World) {cs ds : Array Value} (hn : 0 < n) (hg : g ≠ g') (h : VBlk w g cs) (h' : VBlk w g' ds) :
    Calls Tryd.prog 51 #[.slice (some ⟨g, 0, none⟩) n c, .slice (some ⟨g', 0, none⟩) n c'] w (Falsely w) := by
  have h1 : ((n : Int) == (n : Int)) = true := beq_self_eq_true _
  have hn' : (0 : Int) < (n : Int) := by omega
  have hE : ∀ k, (binOp .eql 94 (.pointer (some ⟨g, 0, none⟩)) (.pointer (some ⟨g', 0, none⟩))).run Tryd.prog (w.drewN k) = .ok (.bool false) (w.drewN k) := fun k => eql_far hg (Blk.drewN h k) (Blk.drewN h' k)
  clear h h'
  go_enter Tryd.func51, Tryd.ntmps51
  go_wp2_with fail
  go_quiet (fail)
  go_wp2_with fail
  go_ret
  exact ⟨rfl, _, rfl⟩
end Go.Proofs.YtboagdmjibdlhaaDoor
