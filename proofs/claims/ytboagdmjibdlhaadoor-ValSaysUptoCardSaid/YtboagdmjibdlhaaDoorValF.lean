/- Contracts of begin and of a walk's next. -/
import Derived.Test.YtboagdmjibdlhaaDoorValE
namespace Go.Proofs.YtboagdmjibdlhaaDoor
open Go.RowKit

theorem items_one (a : Atom) (w : World) : Calls Tryd.prog 44 #[a.val] w fun e w' => e = .returned (.tuple #[.slice none 0 0, .bool false]) ∧ w = w' := by
  cases a
  · exact items_num _ w
  · exact items_txt _ w
  · exact items_sgn _ w
  · exact items_flt _ w
  · exact items_nil w

theorem flat_set (f : Fr) (r : List Fr) : ((f :: r).reverse.flatMap Fr.flat).set (r.length * 2 + 1) (.int .i64 ((f.k : Int) + 1)) = (f.next :: r).reverse.flatMap Fr.flat := by
  have l : (r.reverse.flatMap Fr.flat).length = r.length * 2 := by rw [flat_length]; simp
  simp only [List.reverse_cons, List.flatMap_append, List.flatMap_cons, List.flatMap_nil, List.append_nil]
  rw [List.set_append_right _ _ (by omega), l]
  simp [Fr.flat, Fr.next]

section
variable {B p q cap m : Nat} {w : World}

theorem Wk.drewN {st : List Fr} (A : Wk w B p q cap m st) (k : Nat) : Wk (w.drewN k) B p q cap m st :=
  ⟨A.own, A.path, A.mark, A.nest.keep (Keeps.drewN w k), A.few, A.big, A.base⟩

theorem Wk.step {f : Fr} {r : List Fr} (A : Wk w B p q cap m (f :: r)) (hk : f.k < f.n) :
    Wk (w.setCell ⟨q, r.length * 2 + 1, none⟩ (.int .i64 ((f.k : Int) + 1))) B p q cap m (f.next :: r) ∧ Only p q w (w.setCell ⟨q, r.length * 2 + 1, none⟩ (.int .i64 ((f.k : Int) + 1))) := by
  have ho : Only p q w (w.setCell ⟨q, r.length * 2 + 1, none⟩ (.int .i64 ((f.k : Int) + 1))) := (Only.refl _ _ _).set_g _
  refine ⟨⟨A.own.far A.pq _, ?_, A.mark, (A.nest.next hk).keep (A.keeps ho), ?_, A.big, A.base⟩, ho⟩
  · have h := (A.path.stored (r.length * 2 + 1) (.int .i64 ((f.k : Int) + 1))).1
    rw [flat_set] at h
    exact h
  · have h1 := A.few
    rw [rem_next hk] at h1
    simp at h1 ⊢
    omega

/-- What next tells at the end. -/
def Over (w : World) (e : Ending) (w' : World) : Prop := e = .returned (.tuple #[.int .i64 0, .nilIface]) ∧ ∃ k, w' = w.drewN k

set_option maxHeartbeats 1000000 in
theorem next_over {f : Fr} (A : Wk w B p q cap m [f]) (hk : f.k = f.n) :
    Calls Tryd.prog 33 #[.pointer (some ⟨p, 0, none⟩)] w (Over w) := by
  have h0 : w.cell? ⟨p, 0, none⟩ = some (.slice (some ⟨q, 0, none⟩) 1 cap) := A.c0
  have h2 : w.cell? ⟨q, 0, none⟩ = some (.slice f.a f.n f.c) := by simpa using A.last.1
  have h3 : w.cell? ⟨q, 1, none⟩ = some (.int .i64 (f.n : Int)) := by simpa [hk] using A.last.2
  have e1 : ((f.n : Int) == (f.n : Int)) = true := beq_self_eq_true _
  have hA := Lib.hid A; clear A
  go_enter Tryd.func33, Tryd.ntmps33
  go_wp2_with fail
  go_quiet (fail)
  go_wp2_with fail
  go_quiet (fail)
  go_wp2_with fail
  refine (leave_over (hA.out.drewN _)).mono ?_; rintro e w1 ⟨rfl, rfl⟩
  go_wp2_with fail
  go_ret2
  exact ⟨rfl, _, rfl⟩

set_option maxHeartbeats 1000000 in
theorem next_closed {f g : Fr} {r : List Fr} (A : Wk w B p q cap m (f :: g :: r)) (hk : f.k = f.n) :
    Calls Tryd.prog 33 #[.pointer (some ⟨p, 0, none⟩)] w fun e w' => e = .returned (.tuple #[.int .i64 3, .nilIface]) ∧ Entered B p q (g :: r) w w' := by
  have h0 := A.c0
  have h2 := A.last.1
  have h3 := A.last.2
  rw [hk] at h3
  have hfew := A.few
  have hl : (g :: r).length + 1 ≤ 1000000000 := by simp at hfew ⊢; omega
  clear hfew
  have e1 : ((f.n : Int) == (f.n : Int)) = true := beq_self_eq_true _
  have hA := Lib.hid A; clear A
  have HK := Lib.hid hk; clear hk
  rw [List.length_cons] at h0
  generalize hn : (g :: r).length = n at *
  have w1 : IntKind.i64.wrap (n : Int) = (n : Int) := by rw [IntKind.wrap_i64]; omega
  have b0 : (0 : Int) ≤ (n : Int) := Int.natCast_nonneg _
  have b1 : (n : Int) < (n : Int) + 1 := by omega
  go_enter Tryd.func33, Tryd.ntmps33
  go_wp2_with fail
  go_quiet (fail)
  go_wp2_with fail
  go_quiet (fail)
  go_wp2_with fail
  refine (leave_closed (hA.out.drewN _) HK.out).mono ?_; rintro e w9 ⟨rfl, A9, O9⟩
  go_wp2_with fail
  go_ret2
  exact ⟨rfl, q, cap, _, A9, ((Only.refl p q w).drewN _).trans O9, .inl rfl⟩

set_option maxHeartbeats 2000000 in
theorem next_one {f : Fr} {r : List Fr} {a : Atom} (A : Wk w B p q cap m (f :: r)) (hk : f.k < f.n) (ha : f.xs f.k = .one a) :
    Calls Tryd.prog 33 #[.pointer (some ⟨p, 0, none⟩)] w fun e w' => e = .returned (.tuple #[.int .i64 4, a.val]) ∧ Entered B p q (f.next :: r) w w' := by
  have h0 := A.c0
  have h2 := A.last.1
  have h3 := A.last.2
  obtain ⟨g, cs, hfa, hv, hc⟩ := A.nest.2.1.1 (by omega)
  rw [hfa] at h2
  have h4 : w.cell? ⟨g, f.k, none⟩ = some a.val := by
    have := hc f.k hk
    rw [ha] at this
    exact (hv.cell f.k).trans this
  clear hv hc hfa
  have hfew := A.few
  have hl : r.length + 1 ≤ 1000000000 := by simp at hfew; omega
  clear hfew
  have f3 : w.frozen? ⟨q, r.length * 2 + 1, none⟩ = false := A.path.frozenAt _
  have e1 : ((f.k : Int) == (f.n : Int)) = false := beq_eq_false_iff_ne.2 (by omega)
  have hs := fun k => (A.drewN k).step hk
  have HS := Lib.hid hs; clear hs
  have hkn := A.nest.1.2
  clear A
  have k0 : (0 : Int) ≤ (f.k : Int) := Int.natCast_nonneg _
  have k1 : (f.k : Int) < (f.n : Int) := by omega
  rw [List.length_cons] at h0
  clear hk ha
  generalize r.length = n at *
  generalize f.k = k at *
  have w1 : IntKind.i64.wrap (n : Int) = (n : Int) := by rw [IntKind.wrap_i64]; omega
  have w2 : IntKind.i64.wrap ((k : Int) + 1) = (k : Int) + 1 := by rw [IntKind.wrap_i64]; omega
  clear hkn
  have b0 : (0 : Int) ≤ (n : Int) := Int.natCast_nonneg _
  have b1 : (n : Int) < (n : Int) + 1 := by omega
  go_enter Tryd.func33, Tryd.ntmps33
  go_wp2_with fail
  go_quiet (fail)
  go_wp2_with fail
  go_quiet (fail)
  go_wp2_with fail
  go_quiet (fail)
  go_wp2_with (refine (items_one a _).mono ?_; rintro e w9 ⟨rfl, rfl⟩)
  go_ret2
  exact ⟨rfl, q, cap, m, (HS.out _).1, ((Only.refl p q w).drewN _).trans (HS.out _).2, .inl rfl⟩

set_option maxHeartbeats 2000000 in
theorem next_open {f : Fr} {r : List Fr} {a : Option Addr} {n' c : Nat} {xs : Nat → Tr} (A : Wk w B p q cap m (f :: r)) (hk : f.k < f.n) (ha : f.xs f.k = .lst a n' c xs) :
    Calls Tryd.prog 33 #[.pointer (some ⟨p, 0, none⟩)] w fun e w' => e = .returned (.tuple #[.int .i64 2, .nilIface]) ∧ Entered B p q (⟨a, n', c, xs, 0⟩ :: f.next :: r) w w' := by
  have h0 := A.c0
  have h2 := A.last.1
  have h3 := A.last.2
  obtain ⟨g, cs, hfa, hv, hc⟩ := A.nest.2.1.1 (by omega)
  rw [hfa] at h2
  have h4 : w.cell? ⟨g, f.k, none⟩ = some (.iface 29 (.slice a n' c)) := by
    have := hc f.k hk
    rw [ha] at this
    exact (hv.cell f.k).trans this
  clear hv hc hfa
  have hfew := A.few
  have hl : r.length + 1 ≤ 1000000000 := by simp at hfew; omega
  have hrem := rem_open (r := r) hk ha
  have hr : (f.next :: r).length + 1 + (rem (⟨a, n', c, xs, 0⟩ :: f.next :: r)).length ≤ 1000000000 := by
    rw [hrem] at hfew
    simp at hfew ⊢
    omega
  have hn' : n' ≤ 1000000000 := by
    have h1 := Tr.evs_count a n' c xs
    have h2 : (rem (f :: r)).length = (Tr.lst a n' c xs).evs.length + (rem (f.next :: r)).length := by rw [rem_next hk, ha, List.length_append]
    omega
  clear hfew hrem
  have f3 : w.frozen? ⟨q, r.length * 2 + 1, none⟩ = false := A.path.frozenAt _
  have e1 : ((f.k : Int) == (f.n : Int)) = false := beq_eq_false_iff_ne.2 (by omega)
  have hs : ∀ k, Wk ((w.drewN k).setCell ⟨q, r.length * 2 + 1, none⟩ (.int .i64 ((f.k : Int) + 1))) B p q cap m (f.next :: r) ∧ Only p q w ((w.drewN k).setCell ⟨q, r.length * 2 + 1, none⟩ (.int .i64 ((f.k : Int) + 1))) ∧
      Nest ((w.drewN k).setCell ⟨q, r.length * 2 + 1, none⟩ (.int .i64 ((f.k : Int) + 1))) (⟨a, n', c, xs, 0⟩ :: f.next :: r) := fun k => by
    have h := (A.drewN k).step hk
    exact ⟨h.1, ((Only.refl p q w).drewN k).trans h.2, ((A.drewN k).nest.push hk ha hn').keep ((A.drewN k).keeps h.2)⟩
  have HS := Lib.hid hs; clear hs
  have HR := Lib.hid hr; clear hr
  have hkn := A.nest.1.2
  clear A
  have k0 : (0 : Int) ≤ (f.k : Int) := Int.natCast_nonneg _
  have k1 : (f.k : Int) < (f.n : Int) := by omega
  rw [List.length_cons] at h0
  clear ha
  generalize r.length = n at *
  generalize f.k = k at *
  have w1 : IntKind.i64.wrap (n : Int) = (n : Int) := by rw [IntKind.wrap_i64]; omega
  have w2 : IntKind.i64.wrap ((k : Int) + 1) = (k : Int) + 1 := by rw [IntKind.wrap_i64]; omega
  have b0 : (0 : Int) ≤ (n : Int) := Int.natCast_nonneg _
  have b1 : (n : Int) < (n : Int) + 1 := by omega
  clear hk hkn
  go_enter Tryd.func33, Tryd.ntmps33
  go_wp2_with fail
  go_quiet (fail)
  go_wp2_with fail
  go_quiet (fail)
  go_wp2_with fail
  go_quiet (fail)
  go_wp2_with (first | (refine (items_lst a n' c _).mono ?_; rintro e w9 ⟨rfl, rfl⟩) | (refine (enter_open (HS.out _).1 (HS.out _).2.2 HR.out).mono ?_; rintro e w9 ⟨rfl, q', cap', m', A9, O9, hq9⟩))
  go_ret2
  exact ⟨rfl, q', cap', m', A9, (HS.out _).2.1.trans O9, hq9.imp id (fun h => Nat.le_trans (HS.out _).2.1.size h)⟩
end
end Go.Proofs.YtboagdmjibdlhaaDoor
