/- The contract of the document's answer for one cell. -/
import Derived.Test.YtaooglagddphnaaBiF
namespace Go.Proofs.Ytaooglagddphnaa
open Go.RowKit

set_option maxRecDepth 100000

section
variable {V S T : Int} {dl dc k : Nat} {d : Nat → Nat} {m : Nm} {w : World} {da : Option Addr}
theorem first_low (hR : Rt V S T) (hm : CellAt V S T m k) (hk : m.k ≠ 10) (dv nv : Value) :
    Calls Try.prog 65 #[vL V S T, dv, nmV m, nv] w fun e w' => e = .returned (.int .u64 (bcF V S T dl d k)) ∧ Below w.heap.size w w' := by
  have ab : m.k = 3 → 0 ≤ m.a ∧ m.a < S := fun e => by
    unfold CellAt at hm
    omega
  rw [bc_low hR hm hk]
  have s2 := hR.s2
  obtain ⟨mk, ma, mb, mc⟩ := m
  dsimp only at hk ab ⊢
  have HB : Hid (Below w.heap.size w ((w.alloc (.cells #[.int .i64 V, .int .i64 S, .int .i64 T] 68)).alloc (.cells #[.int .i64 mk, .int .i64 ma, .int .i64 mb, .int .i64 mc] 114))) := Lib.hid (((Below.refl _ _).alloc (Nat.le_refl _) _).alloc (by simp) _)
  clear hR hm
  by_cases h2 : mk = 2
  · subst h2
    by_cases hS : 0 < S
    · rw [if_pos ⟨rfl, hS⟩]
      clear ab hk
      go_enter Try.func65, Try.ntmps65
      go_wp2_with fail
      go_ret
      exact ⟨rfl, HB.out⟩
    · rw [if_neg fun q => hS q.2, if_neg fun q => absurd q.1 (by decide)]
      clear ab hk
      go_enter Try.func65, Try.ntmps65
      go_wp2_with fail
      go_ret
      exact ⟨rfl, HB.out⟩
  · rw [if_neg fun q => h2 q.1]
    by_cases h3 : mk = 3
    · subst h3
      obtain ⟨a1, a2⟩ := ab rfl
      by_cases hS : ma + 1 < S
      · rw [if_pos ⟨rfl, hS⟩]
        have hw : IntKind.u64.wrap (ma + 2) = ma + 2 := IntWalk.u64_in _ (by omega)
        clear ab hk h2
        go_enter Try.func65, Try.ntmps65
        go_wp2_with fail
        go_ret
        exact ⟨rfl, HB.out⟩
      · rw [if_neg fun q => hS q.2]
        clear ab hk h2
        go_enter Try.func65, Try.ntmps65
        go_wp2_with fail
        go_ret
        exact ⟨rfl, HB.out⟩
    · rw [if_neg fun q => h3 q.1]
      have b2 : (mk == 2) = false := beq_eq_false_iff_ne.2 h2
      have b3 : (mk == 3) = false := beq_eq_false_iff_ne.2 h3
      have b10 : (mk != 10) = true := by simpa using hk
      clear ab hk h2 h3
      go_enter Try.func65, Try.ntmps65
      go_wp2_with fail
      go_ret
      exact ⟨rfl, HB.out⟩
set_option maxHeartbeats 4000000 in
theorem first_node {nn cn ga z j : Nat} {nm : Nm} {ma jI : Int} (hjI : jI = (j : Int)) (hz : ma - 1 = (z : Int)) (hz5 : z < 560) (hzn : z < nn) (hn : NmAt w ga z nm) (hga : ga < w.heap.size) (hD : IsNum w da dl d) (hdl : dl ≤ 256) (hj : j < 7)
    (h0 : nm.k = 1 ∧ nm.a = 0 ↔ ((z + 1 : Nat) : Int) ≤ V) (h1 : nm.k = 1 ↔ ((z + 1 : Nat) : Int) ≤ vn V) :
    Calls Try.prog 65 #[vL V S T, .slice da dl dc, nmV ⟨10, ma, jI, 0⟩, .slice (some ⟨ga, 0, none⟩) nn cn] w fun e w' => e = .returned (.int .u64 (ndF V dl d (z + 1) j)) ∧ Below w.heap.size w w' := by
  obtain ⟨fk, fa, fb, fc⟩ := nm
  dsimp only at h0 h1
  have hb := ((Below.refl w.heap.size w).alloc (Nat.le_refl _) (.cells #[.int .i64 V, .int .i64 S, .int .i64 T] 68)).alloc (by simp) (.cells #[.int .i64 10, .int .i64 ma, .int .i64 jI, .int .i64 0] 114)
  obtain ⟨n0, n1, n2, n3⟩ := (hn.below hb hga).cells
  have HB := Lib.hid (hb.alloc hb.size (.cells #[.int .i64 fk, .int .i64 fa, .int .i64 fb, .int .i64 fc] 114))
  have glt := Nat.lt_of_lt_of_le hga hb.size
  have zI : (z : Int) < (nn : Int) := by omega
  have z0 : (0 : Int) ≤ (z : Int) := by omega
  have z5 : (z : Int) < 560 := by omega
  have HD := Lib.hid (hD.below hb)
  have hj7 := hj
  clear hn hb hga hD hzn hz5 hj
  have hcase := (by omega : j = 0 ∨ j = 5 ∨ j = 6 ∨ (j = 1 ∨ j = 2 ∨ j = 3 ∨ j = 4))
  clear hj7
  rcases hcase with rfl | rfl | rfl | hjj
  · obtain rfl : jI = 0 := hjI
    have e : ndF V dl d (z + 1) 0 = if ((z + 1 : Nat) : Int) ≤ V then 0 else 65535 := rfl
    rw [e]
    by_cases hk : fk = 1
    · by_cases ha : fa = 0
      · rw [if_pos (h0.1 ⟨hk, ha⟩)]
        subst hk ha
        clear h0 h1 e
        go_enter Try.func65, Try.ntmps65
        go_wp2_with fail
        go_ret
        exact ⟨rfl, HB.out⟩
      · rw [if_neg fun q => ha (h0.2 q).2]
        have ba : (fa == 0) = false := beq_eq_false_iff_ne.2 ha
        subst hk
        clear h0 h1 e ha
        go_enter Try.func65, Try.ntmps65
        go_wp2_with fail
        go_ret
        exact ⟨rfl, HB.out⟩
    · rw [if_neg fun q => hk (h0.2 q).1]
      have bk1 : (fk == 1) = false := beq_eq_false_iff_ne.2 hk
      clear h0 h1 e hk
      go_enter Try.func65, Try.ntmps65
      go_wp2_with fail
      go_ret
      exact ⟨rfl, HB.out⟩
  · obtain rfl : jI = 5 := hjI
    have e : ndF V dl d (z + 1) 5 = if dl = 0 then 0 else (d ((z + 1) % dl) : Int) := rfl
    rw [e]
    clear h0 h1 e
    by_cases hd0 : dl = 0
    · rw [if_pos hd0]
      subst hd0
      go_enter Try.func65, Try.ntmps65
      go_wp2_with fail
      go_ret
      exact ⟨rfl, HB.out⟩
    · rw [if_neg hd0]
      obtain ⟨db, off, rfl, hcell⟩ := HD.out (by omega)
      obtain ⟨i, hi⟩ : ∃ i, (z + 1) % dl = i := ⟨_, rfl⟩
      have hil : i < dl := by rw [← hi]; exact Nat.mod_lt _ (by omega)
      have D0 := (hcell i hil).1
      rw [hi]
      obtain ⟨P9, hP9⟩ : ∃ P, d i = P := ⟨_, rfl⟩
      rw [hP9] at D0 ⊢
      have hdI : (0 : Int) < (dl : Int) := by omega
      have hd2 : ¬ (dl : Int) = 0 := by omega
      have htm : ma.tmod (dl : Int) = (i : Int) := by
        rw [show ma = ((z + 1 : Nat) : Int) by omega, ← hi]; exact Int.ofNat_tmod (z + 1) dl
      have hjw : IntKind.i64.wrap (i : Int) = (i : Int) := IntWalk.i64_in _ (by omega)
      have hj1 : (i : Int) < (dl : Int) := by omega
      have hj0 : (0 : Int) ≤ (i : Int) := by omega
      have dlt := block_lt D0
      have dcell := cell_later ((Below.refl _ _).alloc (Nat.le_refl _) (.cells #[.int .i64 fk, .int .i64 fa, .int .i64 fb, .int .i64 fc] 114)) D0
      clear hP9 hcell HD hi
      go_enter Try.func65, Try.ntmps65
      go_wp2_with fail
      go_ret
      exact ⟨rfl, HB.out⟩
  · obtain rfl : jI = 6 := hjI
    have e : ndF V dl d (z + 1) 6 = if ((z + 1 : Nat) : Int) ≤ vn V then 65537 else 1 := rfl
    rw [e]
    by_cases hk : fk = 1
    · rw [if_pos (h1.1 hk)]
      subst hk
      clear h0 h1 e
      go_enter Try.func65, Try.ntmps65
      go_wp2_with fail
      go_ret
      exact ⟨rfl, HB.out⟩
    · rw [if_neg fun q => hk (h1.2 q)]
      have bk1 : (fk == 1) = false := beq_eq_false_iff_ne.2 hk
      clear h0 h1 e hk
      go_enter Try.func65, Try.ntmps65
      go_wp2_with fail
      go_ret
      exact ⟨rfl, HB.out⟩
  · have e : ndF V dl d (z + 1) j = 0 := by rcases hjj with rfl | rfl | rfl | rfl <;> rfl
    rw [e]
    have c0 : (jI == 0) = false := beq_eq_false_iff_ne.2 (by omega)
    have c5 : (jI == 5) = false := beq_eq_false_iff_ne.2 (by omega)
    have c6 : (jI == 6) = false := beq_eq_false_iff_ne.2 (by omega)
    clear h0 h1 e hjj hjI
    go_enter Try.func65, Try.ntmps65
    go_wp2_with fail
    go_ret
    exact ⟨rfl, HB.out⟩
theorem first_any {nn cn ga : Nat} {fn : Nat → Nm} (hR : Rt V S T) (hm : CellAt V S T m k) (hD : IsNum w da dl d) (hdl : dl ≤ 256) (hn : ∀ j, j < nn → NmAt w ga j (fn j) ∧ NodeAt V S (fn j) j) (hnn : (nd V S).toNat = nn) (hga : ga < w.heap.size) :
    Calls Try.prog 65 #[vL V S T, .slice da dl dc, nmV m, .slice (some ⟨ga, 0, none⟩) nn cn] w fun e w' => e = .returned (.int .u64 (bcF V S T dl d k)) ∧ Below w.heap.size w w' := by
  by_cases hk : m.k = 10
  · obtain ⟨mk, ma, mb, mc⟩ := m
    dsimp only at hk
    have hm' := hm
    unfold CellAt at hm'
    dsimp only at hm'
    obtain ⟨e1, e2, a1, a2, a3, a4, a5⟩ : mk = 10 ∧ mc = 0 ∧ 1 ≤ ma ∧ ma ≤ nd V S ∧ 0 ≤ mb ∧ mb < 7 ∧ (k : Int) = o5 V S T + (ma - 1) * 7 + mb := by omega
    subst e1 e2
    obtain ⟨z, hz⟩ : ∃ z : Nat, ma - 1 = (z : Int) := ⟨(ma - 1).toNat, by omega⟩
    obtain ⟨j, rfl⟩ : ∃ j : Nat, mb = (j : Int) := ⟨mb.toNat, by omega⟩
    have hzn : z < nn := by omega
    have hnd := (sizes hR).nd2
    obtain ⟨g1, g2⟩ := hn z hzn
    obtain ⟨q0, q1⟩ := nodeAt_nd hR (x := z + 1) (by omega) (by rw [Nat.add_sub_cancel]; exact g2)
    have ek : k = cN V S T (z + 1) j := by
      have := cN_int (k := j) hR (x := z + 1) (by omega)
      omega
    rw [ek, bc_node hR (by omega) (by omega)]
    exact first_node rfl hz (by omega) hzn g1 hga hD hdl (by omega) q0 q1
  · exact first_low hR hm hk _ _
end

end Go.Proofs.Ytaooglagddphnaa
