/- Contract of a walk's enter. -/
import Derived.Test.YtboagdmjibdlhaaDoorValD
namespace Go.Proofs.YtboagdmjibdlhaaDoor
open Go.RowKit

theorem Keeps.drewN (w : World) (k : Nat) : Keeps w (w.drewN k) := fun _ _ h => h

/-- A list within another is not the same in memory. -/
theorem sm_any {a a' : Option Addr} {n c n' c' : Nat} {xs ys : Nat → Tr} {w : World} (hx : (Tr.lst a n c xs).Lies w) (hy : (Tr.lst a' n' c' ys).Lies w) (hl : (Tr.lst a n c xs).evs.length < (Tr.lst a' n' c' ys).evs.length) :
    Calls Tryd.prog 51 #[.slice a n c, .slice a' n' c'] w (Falsely w) := by
  by_cases hn : n = n'
  · subst hn
    by_cases h0 : n = 0
    · subst h0
      exact sm_zero a a' c c' w
    · have hp : 0 < n := by omega
      obtain ⟨g, cs, rfl, hv, _⟩ := hx.1 hp
      obtain ⟨g', cs', rfl, hv', _⟩ := hy.1 hp
      refine sm_far g g' n c c' w hp ?_ hv hv'
      rintro rfl
      have : (Tr.lst (some ⟨g, 0, none⟩) n c xs).evs = (Tr.lst (some ⟨g, 0, none⟩) n c ys).evs := Tr.evs_same hx hy rfl
      have e : (Tr.lst (some ⟨g, 0, none⟩) n c ys).evs = (Tr.lst (some ⟨g, 0, none⟩) n c' ys).evs := rfl
      rw [this, e] at hl
      exact absurd hl (Nat.lt_irrefl _)
  · exact sm_len a a' n c n' c' w (beq_eq_false_iff_ne.2 (by omega))

theorem info_place : (Tryd.prog.info? 76).map (fun i => (i.zero, i.size, i.bytes)) = some (some (.agg #[.slice none 0 0, .int .i64 0]), 2, 32) := by kernel_rfl

theorem own_drewN {w : World} {B : Nat} {e : TypeId} {size : Nat} {v : Value} {n : Nat} {L : List Value} (h : w.ownsRow B e size v n L) (k : Nat) : (w.drewN k).ownsRow B e size v n L := h

theorem grown_only {p q k : Nat} {w w1 : World} {o : Obj} (h : ((w.drewN k).alloc o).grownBy w1 (some q)) : Only p q w w1 := by
  have hs : (w.drewN k).heap.size + 1 ≤ w1.heap.size := by have := h.size; simpa using this
  exact ⟨h.os, h.tape, h.output, by have : (w.drewN k).heap.size = w.heap.size := rfl; omega, fun i hi _ hq => (h.block i (by simp; exact Nat.lt_succ_of_lt hi) (fun e => hq (Option.some.inj e))).trans (Below.heap_alloc (w.drewN k) o i hi)⟩
theorem grown_blk {p q k : Nat} {w w1 : World} {o : Obj} {t : TypeId} {cs : Array Value} (h : ((w.drewN k).alloc o).grownBy w1 (some q)) (hb : Blk w p t cs) (hpq : p ≠ q) : Blk w1 p t cs :=
  (h.block p (by simp; exact Nat.lt_succ_of_lt hb.lt) (fun e => hpq (Option.some.inj e))).trans ((hb.drewN k).alloc o)
theorem row_same {w w' : World} {B q n cap : Nat} {e : TypeId} {L : List Value} (h : w.ownsRow B e 2 (.slice (some ⟨q, 0, none⟩) n cap) n L) (hq : w'.heap[q]? = w.heap[q]?) :
    w'.ownsRow B e 2 (.slice (some ⟨q, 0, none⟩) n cap) n L := row_shorter h (Nat.le_refl _) (List.take_of_length_le (by rw [h.1]; exact Nat.le_refl _)).symm hq

section
variable {B p q cap m : Nat} {w : World}

/-- What is left when a list was entered. -/
def Entered (B p q : Nat) (st : List Fr) (w w' : World) : Prop :=
  ∃ q' cap' m', Wk w' B p q' cap' m' st ∧ Only p q w w' ∧ (q' = q ∨ w.heap.size ≤ q')

set_option maxHeartbeats 2000000 in
theorem enter_open {st : List Fr} (A : Wk w B p q cap m st) {a : Option Addr} {n c : Nat} {xs : Nat → Tr} (hL : Nest w (⟨a, n, c, xs, 0⟩ :: st)) (hfew : (st.length + 1) + (rem (⟨a, n, c, xs, 0⟩ :: st)).length ≤ 1000000000) :
    Calls Tryd.prog 45 #[.pointer (some ⟨p, 0, none⟩), .slice a n c] w fun e w' => e = .returned (.int .i64 2) ∧ Entered B p q (⟨a, n, c, xs, 0⟩ :: st) w w' := by
  obtain ⟨M, hM, hmk⟩ := A.marked
  have hsm : ∀ k, Calls Tryd.prog 51 #[.slice a n c, .slice M.a M.n M.c] (w.drewN k) (Falsely (w.drewN k)) := fun k =>
    sm_any (xs := xs) (ys := M.xs) (hL.2.1.keep (Keeps.drewN w k)) ((A.nest.lies M hM).keep (Keeps.drewN w k)) (hL.2.2.1 M hM)
  clear hM
  obtain ⟨i0, hi0, hz0, hz1, hz2⟩ := info_parts info_place
  have h0 := A.c0
  have h1 := A.c1
  have f0 := A.fz 0
  have f1 := A.fz 1
  have hmark := A.mark
  have hm1 : (m : Int) < (st.length : Int) := by omega
  have hm0 : (0 : Int) ≤ (m : Int) := Int.natCast_nonneg _
  have hbig := A.big
  have hlen : st.length ≤ 1000000000 := by omega
  have hsz : q < w.heap.size := A.q_lt
  have hpl : p < w.heap.size := A.own.lt
  have hpq := A.pq
  have hbase := A.base
  have hBw : B ≤ w.heap.size := by omega
  have hA := Lib.hid A; clear A
  have HL := Lib.hid hL; clear hL
  have HF := Lib.hid hfew; clear hfew
  have HS := Lib.hid hsm; clear hsm
  go_enter Tryd.func45, Tryd.ntmps45
  go_wp2_with fail
  go_quiet ((go_at_call 51; exact Calls.quiet_of (HS.out _)))
  go_wp2_with (at_builtin
               refine wpList_append_own_at _ rfl (.tmp 22) (.tmp 25) 77 rfl B 76 i0 _ 2 32 Tryd.underlying77 hi0 hz0 hz1 hz2 rfl (by omega) _ st.length (st.reverse.flatMap Fr.flat) rfl
                 ((own_drewN hA.out.path _).alloc _) ⟨w.heap.size, 0, none⟩ 1 1 [.slice a n c, .int .i64 0] rfl rfl ?c1 ?c2 (by simp only [maxLen]; omega) (by omega) (by simp; omega) ?_)
  case c1 =>
    intro j u hj
    match j, hj with
    | 0, hj => simp at hj; subst hj; rw [Addr.add_lit, Nat.zero_add]; exact (Blk.new _ _ _).cell 0
    | 1, hj => simp at hj; subst hj; rw [Addr.add_lit, Nat.zero_add]; exact (Blk.new _ _ _).cell 1
  case c2 => intro u hu; simp at hu; rcases hu with rfl | rfl <;> rfl
  intro v' w1 hown hgrow hv hblk
  have ho1 : Only p q w w1 := grown_only hgrow
  have hk1 : Blk w1 p 79 #[.slice (some ⟨q, 0, none⟩) st.length cap, .int .i64 (m : Int)] := grown_blk hgrow hA.out.own hpq
  obtain ⟨q', cap', rfl, hq', hc1, hc2, hx⟩ : ∃ q' cap', v' = .slice (some ⟨q', 0, none⟩) (st.length + 1) cap' ∧ (q' = q ∨ w.heap.size ≤ q') ∧ st.length + 1 ≤ cap' ∧ cap' ≤ maxLen ∧ ∃ cs, Blk w1 q' 76 cs := by
    rcases hown.2 with ⟨_, h⟩ | ⟨g, cp, cur, rfl, _, hg, hc, hm, _⟩
    · exact absurd h (by omega)
    · refine ⟨g, cp, rfl, ?_, hc, hm, cur, hg⟩
      rcases hblk with h | h
      · simp [Value.ownBlock] at h; exact .inl h
      · simp [Value.ownBlock] at h; omega
  have g0 := hk1.cell 0
  have g1 := hk1.cell 1
  have gf0 := hk1.frozen 0
  simp at g0 g1
  clear h0 h1 f0 f1 hmk hv hblk
  have HG := Lib.hid hgrow; clear hgrow
  have HO := Lib.hid hown; clear hown
  have HK := Lib.hid hk1; clear hk1
  have HX := Lib.hid hx; clear hx
  go_wp2_with fail
  have k2 : Blk (w1.setCell ⟨p, 0, none⟩ (.slice (some ⟨q', 0, none⟩) (st.length + 1) cap')) p 79 #[.slice (some ⟨q', 0, none⟩) (st.length + 1) cap', .int .i64 (m : Int)] := HK.out.set_ 0 _
  have o2 : Only p q w (w1.setCell ⟨p, 0, none⟩ (.slice (some ⟨q', 0, none⟩) (st.length + 1) cap')) := ho1.set_p _
  have p2 : (w1.setCell ⟨p, 0, none⟩ (.slice (some ⟨q', 0, none⟩) (st.length + 1) cap')).ownsRow B 76 2 (.slice (some ⟨q', 0, none⟩) (st.length + 1) cap') (st.length + 1) (st.reverse.flatMap Fr.flat ++ [.slice a n c, .int .i64 0]) := by
    obtain ⟨cs, hx⟩ := HX.out
    have hne : p ≠ q' := HK.out.ne_ hx (by decide)
    exact row_same HO.out ((Only.set_p (g := p) (Only.refl p p w1) _).block q' hx.lt hne.symm hne.symm)
  clear g0 g1 gf0 HG HO HK HX ho1
  generalize w1.setCell ⟨p, 0, none⟩ (.slice (some ⟨q', 0, none⟩) (st.length + 1) cap') = w2 at *
  have h0 := k2.cell 0
  have h1 := k2.cell 1
  simp at h0 h1
  have f1 := k2.frozen 1
  have K2 := Lib.hid k2; clear k2
  have O2 := Lib.hid o2; clear o2
  have P2 := Lib.hid p2; clear p2
  have fin : Hid (∀ (mm k : Nat) (w3 : World), mm < st.length + 1 → Blk w3 p 79 #[.slice (some ⟨q', 0, none⟩) (st.length + 1) cap', .int .i64 (mm : Int)] → Only p p w2 w3 → Entered B p q (⟨a, n, c, xs, 0⟩ :: st) w w3) := by
    intro mm _ w3 hmm hb ho
    have O3 : Only p q w w3 := O2.out.trans ho.wide
    refine ⟨q', cap', mm, ⟨hb, ?_, by simpa using hmm, HL.out.keep (hA.out.keeps O3), by simpa using HF.out, ⟨by simpa using hc1, hc2⟩, hbase⟩, O3, hq'⟩
    have e : (⟨a, n, c, xs, 0⟩ :: st : List Fr).reverse.flatMap Fr.flat = st.reverse.flatMap Fr.flat ++ [.slice a n c, .int .i64 0] := by simp [Fr.flat]
    rw [e]
    obtain ⟨cs, hx⟩ : ∃ cs, Blk w2 q' 76 cs := by
      rcases P2.out.2 with ⟨h, _⟩ | ⟨g, c, cur, h, _, hg, _⟩
      · simp at h
      · simp at h; obtain ⟨rfl, _⟩ := h; exact ⟨cur, hg⟩
    have hne : p ≠ q' := K2.out.ne_ hx (by decide)
    exact row_same P2.out (ho.block q' hx.lt hne.symm hne.symm)
  clear hA HL HF HS hbase hpq hsz hq' hBw hz0 hz1 hz2 hi0
  have e0 : IntKind.i64.wrap ((m : Int) + 1) = (m : Int) + 1 := by rw [IntKind.wrap_i64]; omega
  have e1 : IntKind.i64.wrap (2 * ((m : Int) + 1)) = 2 * ((m : Int) + 1) := by rw [IntKind.wrap_i64]; omega
  have e2 : IntKind.i64.wrap (st.length : Int) = (st.length : Int) := by rw [IntKind.wrap_i64]; omega
  generalize st.length = L at *
  by_cases hgt : 2 * ((m : Int) + 1) < (L : Int) + 1
  · go_quiet (fail)
    go_wp2_with fail
    go_ret
    exact ⟨rfl, fin.out L 0 _ (by omega) ((K2.out.drewN _).set_ 1 _) (Only.set_p ((Only.refl p p w2).drewN _) _)⟩
  · go_quiet (fail)
    go_wp2_with fail
    go_ret
    exact ⟨rfl, fin.out m 0 _ (by omega) (K2.out.drewN _) ((Only.refl p p w2).drewN _)⟩
end
end Go.Proofs.YtboagdmjibdlhaaDoor
