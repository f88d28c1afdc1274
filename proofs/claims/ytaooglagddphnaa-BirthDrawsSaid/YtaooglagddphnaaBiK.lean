/- A new arena's loads, length, and free slots; awake. Printed by wip/tools/bik.py. -/
import Derived.Test.YtaooglagddphnaaBiH
namespace Go.Proofs.Ytaooglagddphnaa
open Go.RowKit

set_option maxRecDepth 100000

section
variable {V S T : Int} {dl dc p gb cap m k : Nat} {d : Nat → Nat} {w w' : World} {da : Option Addr} {f : Nat → Int}
theorem em_aload (h : EM w V S T p gb cap m f) (hk : k < cellsE V S T) (hb : m ≤ 100000000) {kI : Int} (hI : kI = (k : Int)) :
    Calls Try.prog 27 #[.pointer (some ⟨p, 0, none⟩), .int .i64 kI] w fun e w' => e = .returned (.tuple #[.int .u64 (f k), .int .i64 0]) ∧ EM w' V S T p gb cap (m + 1) f ∧ Only p gb w w' := by
  subst hI
  obtain ⟨h1, c, A, C⟩ := h
  refine (load_yes A hk C hb).mono ?_
  rintro e w' ⟨rfl, A2, O2⟩
  exact ⟨rfl, ⟨h1, _, A2, C.upd 0⟩, O2⟩
theorem em_alen (h : EM w V S T p gb cap m f) : Calls Try.prog 26 #[.pointer (some ⟨p, 0, none⟩)] w fun e w' => e = .returned (.int .i64 (cellsE V S T : Int)) ∧ w = w' := by
  obtain ⟨_, c, A, _⟩ := h
  have c0 := A.c0
  have lt := A.p_lt
  clear A
  go_enter Try.func26, Try.ntmps26
  go_wp2_with fail
  go_ret
  exact ⟨rfl, rfl⟩
theorem cell_heap13b {b o : Nat} (h : w'.heap[b]? = w.heap[b]?) : w'.cell? ⟨b, o, none⟩ = w.cell? ⟨b, o, none⟩ := by unfold World.cell?; simp only [h]
theorem ref15 (V S T : Int) (w : World) : Calls Try.prog 23 #[vL V S T] w fun e w' => e = .returned (vL V S T) ∧ Below w.heap.size w w' := by
  go_enter Try.func23, Try.ntmps23
  go_wp2_with fail
  exact bodyPost_ret (v := vL V S T) (by simp [results, Try.results23, go_sem]) rfl ⟨rfl, ((Below.refl _ _).alloc (Nat.le_refl _) _).alloc (by simp) _⟩
theorem bcX_cell (hk : k < cellsE V S T) (hR : Rt V S T) : bcX V S T dl d (nN V S + 1) k = bcF V S T dl d k := by
  have h1 := cellsE_int hR
  have h2 := nN_int hR
  have h3 : cn V S T = o5 V S T + nd V S * 7 := by unfold cn o5; omega
  unfold bcX
  rw [if_pos (by omega)]
/-- What List tells of memory at first. -/
theorem free15 (hE : EM w V S T p gb cap m (bcX V S T dl d (nN V S + 1))) (hm : m ≤ 100000) :
    Calls Try.prog 31 #[.iface 84 (pmV p), vL V S T] w fun e w' => ∃ v, e = .returned v ∧ LI w' v (List.range S.toNat) ∧ (∀ i, bk v = some i → w.heap.size ≤ i) ∧ EM w' V S T p gb cap (m + 1 + S.toNat) (bcX V S T dl d (nN V S + 1)) ∧ Only p gb w w' := by
  obtain ⟨hR, c, A, C⟩ := hE
  obtain ⟨Sn, rfl⟩ : ∃ n : Nat, S = (n : Int) := ⟨S.toNat, by have := hR.s1; omega⟩
  obtain ⟨t, rfl⟩ : ∃ n : Nat, T = (n : Int) := ⟨T.toNat, by have := hR.t1; omega⟩
  have e3 : o3 (Sn : Int) (t : Int) = t + 1 + Sn * 7 := rfl
  have h1 := cellsE_int hR
  have h2 := o3_cells hR
  obtain ⟨q0, q1, q2⟩ := o_order hR
  have f0 : bcX V (Sn : Int) (t : Int) dl d (nN V (Sn : Int) + 1) t = lnF Sn 0 := by
    rw [bcX_low (by omega) (by omega)]
    unfold bcF
    rw [if_neg (by omega), if_pos rfl, Int.toNat_natCast]
  have f1 : ∀ s, s < Sn → bcX V (Sn : Int) (t : Int) dl d (nN V (Sn : Int) + 1) (t + 1 + s * 7) = (((fun s => if s + 1 < Sn then s + 2 else 0) s : Nat) : Int) := fun s hs => by
    rw [bcX_low (by omega) (by omega)]
    unfold bcF
    rw [if_neg (by omega), if_neg (by omega), if_pos (by omega), if_pos (by omega), Int.toNat_natCast]
    have e : (((t + 1 + s * 7 : Nat) : Int) - t - 1) / 7 = s := by omega
    rw [e]
    unfold lnF
    dsimp only
    by_cases h : s + 1 < Sn
    · rw [if_pos (by omega), if_pos h]; omega
    · rw [if_neg (by omega), if_neg h]; rfl
  have hk0 : lnF Sn 0 % 65536 = ((if Sn = 0 then 0 else 0 + 1 : Nat) : Int) := by
    unfold lnF
    by_cases h : Sn = 0
    · rw [if_neg (by omega), if_pos h]; rfl
    · rw [if_pos (by omega), if_neg h]; rfl
  refine (slist_any (k0 := if Sn = 0 then 0 else 0 + 1) (nx := fun s => if s + 1 < Sn then s + 2 else 0) (L := List.range' 0 Sn) hR rfl A (by omega) (fun s hs => by omega) C hm (by rw [f0]; exact hk0) f1 (chain_range Sn Sn 0 (by omega)) (fun s hs => by have := (List.mem_range'_1.1 hs).2; omega) (by simp)).mono ?_
  rintro e w' ⟨v, c', rfl, hl, hb, A', C', _, _, O⟩
  rw [Int.toNat_natCast]
  refine ⟨v, rfl, by rw [List.range_eq_range']; exact hl, hb, ⟨hR, c', A', ?_⟩, O⟩
  rw [List.length_range'] at C'
  exact C'
end

end Go.Proofs.Ytaooglagddphnaa
