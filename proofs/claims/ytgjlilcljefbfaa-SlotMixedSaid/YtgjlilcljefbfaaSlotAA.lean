/- The contract of a play's apart. -/
import Derived.Test.YtgjlilcljefbfaaSlotZ
import Derived.Test.YtgjlilcljefbfaaSlotLMisses
import Derived.Carry
namespace Go.Proofs.Ytgjlilcljefbfaa
open Go.RowKit

set_option maxRecDepth 100000

/-- What the first k workers have. -/
def seenL (ws : Nat → Wr) (k : Nat) : List Nat := (List.range k).flatMap fun j => (ws j).has
theorem seenL_succ (ws : Nat → Wr) (k : Nat) : seenL ws (k + 1) = seenL ws k ++ (ws k).has := by
  unfold seenL
  rw [List.range_succ, List.flatMap_append]
  simp
theorem seenL_mem {ws : Nat → Wr} {k x : Nat} (h : x ∈ seenL ws k) : ∃ j, j < k ∧ x ∈ (ws j).has := by
  unfold seenL at h
  obtain ⟨j, hj, hx⟩ := List.mem_flatMap.1 h
  exact ⟨j, List.mem_range.1 hj, hx⟩
theorem take_not {l : List Nat} (hn : l.Nodup) {k x : Nat} (hx : l[k]? = some x) : x ∉ l.take k := by
  intro hm
  rw [← List.take_append_drop k l] at hn
  have h1 := (List.nodup_append.1 hn).2.2 x hm
  have h2 : x ∈ l.drop k := by
    have : (l.drop k)[0]? = some x := by rw [List.getElem?_drop]; simpa using hx
    exact List.mem_of_getElem? this
  exact h1 x h2 rfl

section
variable {w : World} {pb p g n cap S m M W0 nW : Nat} {av : Value} {wb qb : Nat → Nat} {hv : Nat → Value} {c f : Nat → Int} {y : Sm} {L : List Nat}
theorem SlOk.has_nodup (h : SlOk S nW y.x L) {i : Nat} (hi : i < nW) : (y.x.ws i).has.Nodup := (List.nodup_append.1 (h.held_nodup hi)).1
theorem SlOk.has_lt (h : SlOk S nW y.x L) {i : Nat} (hi : i < nW) : ∀ s ∈ (y.x.ws i).has, s < S := fun _ hs => h.lt_of_held hi (List.mem_append.2 (.inl hs))

set_option maxHeartbeats 8000000 in
theorem apart_any (hS : S ≤ 48) (hn8 : nW ≤ 8) (hn1 : 1 ≤ nW) (h : PM w pb p g n cap S m M W0 nW av wb qb hv c f y) (R : RowW w W0 av nW wb) (hok : SlOk S nW y.x L) :
    Calls Try.prog 20 #[.pointer (some ⟨pb, 0, none⟩)] w fun e w' => e = .returned (.bool true) ∧ Below w.heap.size w w' := by
  have hmm := @run_makeMap Try.prog
  obtain ⟨ab, ac, rfl, hac, hacell⟩ := R.open_ (by omega)
  have HPM := Lib.hid h
  have HRW := Lib.hid R
  have HOK := Lib.hid hok
  obtain ⟨v0, v1, v2, v3, v4⟩ := h.pl.cells
  have vlt := Blk.lt h.pl
  clear h R hok hacell
  go_enter Try.func20, Try.ntmps20
  go_wp2_with fail
  go_loopw [14] (fun i wr => ∃ k k0 : Nat, k ≤ nW ∧ i = .int .i64 (k : Int) ∧ k0 ≤ 100 * k ∧ SetN wr w.heap.size k0 (seenL y.x.ws k) ∧ Below w.heap.size w wr) (fun i _ => nW - (intOf i).toNat)
  case atStart => exact ⟨0, 0, Nat.zero_le _, rfl, Nat.le_refl _, SetN.made w, (Below.refl _ _).alloc (Nat.le_refl _) _⟩
  case round =>
    clear v0 v1 v2 v3 v4 vlt
    obtain ⟨k, k0, hk, rfl, hk0, SE, B⟩ := hrel
    have HSE := Lib.hid SE
    have HB := Lib.hid B
    clear SE B
    by_cases hlt : k < nW
    · have hac2 := (row_cells (HRW.out.below HB.out) (HPM.out.below HB.out).pl hlt).out.2
      have hwk := (HPM.out.below HB.out).wk k hlt
      obtain ⟨hl, hhl⟩ : ∃ hl, hl = (y.x.ws k).has := ⟨_, rfl⟩
      have hli9 := hwk.has
      rw [← hhl] at hli9
      obtain ⟨ha, hc, he, _, _⟩ := hli9.shape
      have hown2 := hwk.own.cell 2
      rw [he] at hown2
      have hc2 : wr.cell? ⟨wb k, 2, none⟩ = some (.slice ha hl.length hc) := hown2
      have hll : hl.length ≤ S := nodup_len (by rw [hhl]; exact HOK.out.has_nodup hlt) (by rw [hhl]; exact HOK.out.has_lt hlt)
      have HHL := Lib.hid hhl
      have HHE := Lib.hid he
      clear hwk hli9 he hown2 hhl
      go_wp2_with fail
      clear hac2 hc2
      go_loopw [23] (fun i wr => ∃ j k1 : Nat, j ≤ hl.length ∧ i = .int .i64 (j : Int) ∧ k1 ≤ 100 * k + j ∧ SetN wr w.heap.size k1 (seenL y.x.ws k ++ hl.take j) ∧ Below w.heap.size w wr) (fun i _ => hl.length - (intOf i).toNat)
      case atStart => exact ⟨0, k0, Nat.zero_le _, rfl, by omega, by simpa using HSE.out, HB.out⟩
      case round =>
        clear HSE HB
        obtain ⟨j, k1, hj, rfl, hk1, SE, B⟩ := hrel
        have HSE := Lib.hid SE
        have HB := Lib.hid B
        clear SE B
        by_cases hlt2 : j < hl.length
        · obtain ⟨x, hx⟩ : ∃ x, hl[j]? = some x := ⟨_, List.getElem?_eq_getElem hlt2⟩
          have hne : hl ≠ [] := by rintro rfl; simp at hlt2
          have hli9 : LI wr (.slice ha hl.length hc) hl := by
            have := ((HPM.out.below HB.out).wk k hlt).has
            rw [HHE.out, ← HHL.out] at this
            exact this
          obtain ⟨vb, voff, vc2, e, _, _, _, hcell⟩ := hli9.open_ hne
          injection e with e1 _ ec
          subst e1 ec
          have hcx := hcell j x hx
          have hxh : x ∈ (y.x.ws k).has := by rw [← HHL.out]; exact List.mem_of_getElem? hx
          have hxS : x < S := HOK.out.has_lt hlt x hxh
          have hxS2 : ((x : Nat) : Int) < (S : Int) := by omega
          have hnot : x ∉ seenL y.x.ws k ++ hl.take j := by
            intro hm
            rcases List.mem_append.1 hm with hm | hm
            · obtain ⟨j', hj', hm'⟩ := seenL_mem hm
              exact HOK.out.apart hj' hlt (List.mem_append.2 (.inl hm')) (List.mem_append.2 (.inl hxh))
            · exact take_not (by rw [HHL.out]; exact HOK.out.has_nodup hlt) hx hm
          have hlook := HSE.out.look (i := x) (by omega) (d := false) (decide_eq_false hnot)
          have v1 := (HPM.out.below HB.out).pl.cells.2.1
          have htk : hl.take (j + 1) = hl.take j ++ [x] := by rw [List.take_add_one, hx]; rfl
          have HTK := Lib.hid htk
          clear hcell hx hxh hnot htk hne hli9
          go_wp2_with (first | (at_mapUpdate; refine wpList_setn _ rfl _ _ _ rfl w.heap.size k1 (seenL y.x.ws k ++ hl.take j) rfl HSE.out (by simp only [maxLen]; omega) x (by omega) rfl rfl ?_) | fail)
          intro w9 hs9 hg9
          have HR3 : Hid (SetN w9 w.heap.size (k1 + 1) (seenL y.x.ws k ++ hl.take (j + 1)) ∧ Below w.heap.size w w9) := by
            refine Lib.hid ⟨?_, HB.out.grown hg9 HB.out.size (fun i hi => by injection hi with hi; omega)⟩
            rw [HTK.out]
            first | exact hs9 | (rw [← List.append_assoc]; exact hs9)
          clear HSE HB hs9 hg9 hlook
          go_wp2_with fail
          exact ⟨⟨j + 1, k1 + 1, by omega, by go_num, by omega, HR3.out⟩, by simp [intOf]; omega⟩
        · have hjl : j = hl.length := by omega
          subst hjl
          have hR : Hid (SetN wr w.heap.size k1 (seenL y.x.ws (k + 1)) ∧ Below w.heap.size w wr) := by
            refine Lib.hid ⟨?_, HB.out⟩
            have := HSE.out
            rw [List.take_length, HHL.out] at this
            rw [seenL_succ]
            exact this
          clear HSE HB
          go_wp2_with fail
          go_round
          case rel => exact ⟨k + 1, k1, by omega, by go_num, by omega, hR.out⟩
          case measure => simp [intOf]; omega
    · have hkn : k = nW := by omega
      subst hkn
      go_wp2_with fail
      go_ret
      exact ⟨rfl, HB.out⟩
end
end Go.Proofs.Ytgjlilcljefbfaa
