/- Rows of numbers of one's own; the contract of the document's Cells. Printed by wip/tools/bih.py. -/
import Derived.Test.YtaooglagddphnaaBiG
import Derived.Deep.AppendLies
namespace Go.Proofs.Ytaooglagddphnaa
open Go.RowKit

set_option maxRecDepth 100000

section
variable {w w' W : World} {base n : Nat} {v : Value}
theorem step_app15 {T9 E9 : TypeId} {zv : Value} {by9 : Nat} (hT : Try.prog.underlying T9 = some (.slice E9)) (hE : (Try.prog.info? E9).map (fun i => (i.zero, i.size, i.bytes)) = some (some zv, 1, by9)) (hzv : zv.cells.size = 1) (hby : by9 ≤ 64)
    {ops : Array Oper} {o : Oper} {a : Act} {K : Act → World → Prop} {Q : Exit → Act → World → Prop} {F : Prop} (hgd : o.guard = none) (s x : Operand)
    (ho : o.op = .call { callee := .builtin .append, args := #[s, x], argTypes := #[T9, T9] })
    {v : Value} {xs : List Value} (hs : a.eval s = v) (h : w.ownsRow base E9 1 v xs.length xs) (u : Value) (hu : u.oneCell' = true) (ad : Addr) (c : Nat) (hx : a.eval x = .slice (some ad) 1 c) (hc : w.cell? (ad.add 0) = some u) (hl : xs.length ≤ 10000) (hb : base ≤ w.heap.size)
    (hK : ∀ g cap w', w'.ownsRow base E9 1 (.slice (some ⟨g, 0, none⟩) (xs.length + 1) cap) (xs ++ [u]).length (xs ++ [u]) → w.grownBy w' v.ownBlock → g < w'.heap.size → K (a.put o.dst (.slice (some ⟨g, 0, none⟩) (xs.length + 1) cap)) w') :
    if Region.wanted o (yielded ops a.tmps) = true then Oper.wp Try.prog o a w K Q else F := by
  obtain ⟨i0, hi0, hz0, hz1, hz2⟩ := info_parts hE
  have hm : (xs.length + 1) * by9 ≤ 10001 * 64 := Nat.mul_le_mul (by omega) hby
  refine step_append_lies w hgd s x T9 ho base E9 i0 _ 1 by9 hT hi0 hz0 hz1 hz2 hzv (by omega) v xs.length xs hs h ad 1 c [u] hx rfl ?_ ?_ (by omega) (by simp only [maxLen]; omega) (by omega) hb w.heap.size rfl ?_
  · intro j u' hj
    match j, hj with
    | 0, hj => simp at hj; subst hj; exact hc
    | j + 1, hj => simp at hj
  · intro u' hu'; simp at hu'; subst hu'; exact hu
  · intro g cap w' h1 h2 _ h4
    refine hK g cap w' ?_ h2 h4
    rw [List.length_append, List.length_singleton]; exact h1
/-- A row of one's own, opened. -/
theorem own_open15 {E9 : TypeId} {xs : List Value} (h : w.ownsRow base E9 1 v xs.length xs) (hn : 0 < xs.length) : ∃ g cap zs, v = .slice (some ⟨g, 0, none⟩) xs.length cap ∧ base ≤ g ∧ Blk w g E9 zs ∧ ∀ (k : Nat) (x : Value), xs[k]? = some x → zs[k]? = some x := by
  rcases h.2 with ⟨rfl, h0⟩ | ⟨g, cap, cur, rfl, hg, hgg, h1, h2, h3, h4⟩
  · omega
  · refine ⟨g, cap, cur, rfl, hg, hgg, fun k x hx => ?_⟩
    have hk := (List.getElem?_eq_some_iff.1 hx).1
    have hc : cur[k]? = xs[k]? := by
      rw [← h4, List.getElem?_take_of_lt (by omega), Array.getElem?_toList]
    rw [hc]; exact hx
theorem own_slice15 {E9 : TypeId} {xs : List Value} {n : Nat} (h : w.ownsRow base E9 1 v n xs) : ∃ a c, v = .slice a n c := by
  rcases h.2 with ⟨rfl, rfl⟩ | ⟨g, cap, cur, rfl, _⟩
  · exact ⟨_, _, rfl⟩
  · exact ⟨_, _, rfl⟩
theorem own_keep15 {E9 : TypeId} {xs : List Value} {n : Nat} (h : w.ownsRow base E9 1 v n xs) (hb : ∀ i, v.ownBlock = some i → w'.heap[i]? = w.heap[i]?) : w'.ownsRow base E9 1 v n xs := by
  rcases h.2 with ⟨e, h0⟩ | ⟨g, cap, cur, e, hg, hgg, h1, h2, h3, h4⟩
  · exact ⟨h.1, .inl ⟨e, h0⟩⟩
  · subst e
    refine ⟨h.1, .inr ⟨g, cap, cur, rfl, hg, ?_, h1, h2, h3, h4⟩⟩
    by_cases hc : cap = 0
    · subst hc
      first
        | exact (hb g rfl).trans hgg
        | (simp at h1; exact absurd h1 (by omega))
    · obtain ⟨c, rfl⟩ : ∃ c, cap = c + 1 := ⟨cap - 1, by omega⟩
      exact (hb g rfl).trans hgg
theorem own_below15 {w w' : World} {base n : Nat} {v : Value} {E9 : TypeId} {xs : List Value} (h : w.ownsRow base E9 1 v n xs) (hb : Below w.heap.size w w') : w'.ownsRow base E9 1 v n xs := own_keep15 h fun i hi => hb.block i (World.ownsRow.lt h i hi).2
theorem below_grown15 {E9 : TypeId} {xs : List Value} {m : Nat} (h : w.ownsRow W.heap.size E9 1 v m xs) (hb : Below W.heap.size W w) (hg : w.grownBy w' v.ownBlock) : Below W.heap.size W w' :=
  ⟨hg.os.trans hb.os, hg.tape.trans hb.tape, hg.output.trans hb.output, Nat.le_trans hb.size hg.size, fun i hi => (hg.block i (Nat.lt_of_lt_of_le hi hb.size) fun e => by have := (World.ownsRow.lt h i e.symm).1; omega).trans (hb.block i hi)⟩
end
/-- A memory's first cells, as values; all of its cells. -/
def cvL (f : Nat → Int) (k : Nat) : List Value := (List.range k).map fun i => .int .u64 (f i)
def cvF (n : Nat) (f : Nat → Int) (k : Nat) : Int := if k < n then f k else 0
section
variable {f : Nat → Int} {k : Nat}
theorem cvL_len : (cvL f k).length = k := by simp [cvL]
theorem cvL_succ : cvL f (k + 1) = cvL f k ++ [.int .u64 (f k)] := by unfold cvL; rw [List.range_succ, List.map_append]; rfl
theorem cvL_at {n : Nat} (h : k < n) : (cvL f n)[k]? = some (.int .u64 (f k)) := by unfold cvL; rw [List.getElem?_map, List.getElem?_range h]; rfl
end
section
variable {V S T : Int} {dl dc : Nat} {d : Nat → Nat} {w : World} {da : Option Addr}
/-- Along the cells. -/
def K15 (W0 : World) (n : Nat) (F : Nat → Int) (v i : Value) (W : World) : Prop :=
  ∃ k a c, k ≤ n ∧ i = .int .i64 ((k : Nat) : Int) ∧ v = .slice a k c ∧ W.ownsRow W0.heap.size 51 1 (.slice a k c) k (cvL F k) ∧ Below W0.heap.size W0 W
set_option maxHeartbeats 8000000 in
theorem cells15 (hR : Rt V S T) (hD : IsNum w da dl d) (hdl : dl ≤ 256) :
    Calls Try.prog 25 #[vL V S T, .slice da dl dc] w fun e w' => ∃ g cap, e = .returned (.slice (some ⟨g, 0, none⟩) (cellsE V S T) cap) ∧ w.heap.size ≤ g ∧ g < w'.heap.size ∧ (∀ k, k < cellsE V S T → w'.cell? ⟨g, k, none⟩ = some (.int .u64 (bcF V S T dl d k))) ∧ Below w.heap.size w w' := by
  have HR := Lib.hid hR
  have HD0 := Lib.hid hD
  have HDL := Lib.hid hdl
  obtain ⟨n, hn⟩ : ∃ k, cellsE V S T = k := ⟨_, rfl⟩
  have HN := Lib.hid hn
  have hcn : (cn V S T).toNat = n := hn
  have hrc := rcells_yes V S T hR
  rw [hcn] at hrc
  have HRC := Lib.hid hrc
  obtain ⟨nn, hnn⟩ : ∃ k, (nd V S).toNat = k := ⟨_, rfl⟩
  have HND := Lib.hid hnn
  have hrn := rnodes_yes V S T hR
  rw [hnn] at hrn
  have HRN := Lib.hid hrn
  obtain ⟨F, hF⟩ : ∃ F, bcF V S T dl d = F := ⟨_, rfl⟩
  have HF := Lib.hid hF
  have n1 : 0 < n := by
    have := o5_bd hR
    have := (sizes hR).nd1
    have e3 : cn V S T = o5 V S T + nd V S * 7 := by unfold cn o5; omega
    omega
  have n2 : n ≤ 10000 := by
    have z := sizes hR
    have a1 := z.vn1; have a2 := z.vn2; have a3 := z.pr1; have a4 := z.pr2; have a5 := z.nd1; have a6 := z.nd2
    have b1 := hR.s1; have b2 := hR.s2; have b3 := hR.t1; have b4 := hR.t2
    rw [← hn]
    unfold cellsE cn
    omega
  have nI : (n : Int) ≤ 10000 := by omega
  rw [hn]
  clear hR hD hn hcn hrc hnn hrn hF hdl
  have HB : Hid (Below w.heap.size w (w.alloc (.cells #[.int .i64 V, .int .i64 S, .int .i64 T] 68))) := Lib.hid ((Below.refl _ _).alloc (Nat.le_refl _) _)
  have HL : Hid (Blk (w.alloc (.cells #[.int .i64 V, .int .i64 S, .int .i64 T] 68)) w.heap.size 68 #[.int .i64 V, .int .i64 S, .int .i64 T]) := Lib.hid (Blk.new _ _ _)
  go_enter Try.func25, Try.ntmps25
  go_wp2_with fail
  generalize hlb : w.heap.size = lb at HL ⊢
  have HLB := Lib.hid hlb
  clear hlb
  generalize w.alloc (.cells #[.int .i64 V, .int .i64 S, .int .i64 T] 68) = w1 at HB HL ⊢
  refine (HRC.out w1).mono ?_; rintro e w2 ⟨gn, cn9, fn, rfl, _, g2, g3, hN, hb2⟩
  have HB2 := Lib.hid (HB.out.trans (hb2.mono HB.out.size))
  have HL2 := Lib.hid (HL.out.below hb2 HL.out.lt)
  have HNA2 := Lib.hid hN
  have HG2 := Lib.hid g3
  clear HB HL hb2 hN g2 g3
  have l0 : w2.cell? ⟨lb, 0, none⟩ = some (.int .i64 V) := HL2.out.cell 0
  have l1 : w2.cell? ⟨lb, 1, none⟩ = some (.int .i64 S) := HL2.out.cell 1
  have l2 : w2.cell? ⟨lb, 2, none⟩ = some (.int .i64 T) := HL2.out.cell 2
  have llt := HL2.out.lt
  go_wp2_with fail
  refine (HRN.out w2).mono ?_; rintro e W0 ⟨ga, ca, fa, rfl, _, g2, g3, hN, hb3⟩
  have HNM0 : Hid (∀ k, k < n → NmAt W0 gn k (fn k) ∧ CellAt V S T (fn k) k) := Lib.hid fun k hk => ⟨(HNA2.out k hk).1.below hb3 HG2.out, (HNA2.out k hk).2⟩
  have HGN : Hid (gn < W0.heap.size) := Lib.hid (Nat.lt_of_lt_of_le HG2.out hb3.size)
  have HB3 := Lib.hid (HB2.out.trans (hb3.mono HB2.out.size))
  have HL3 := Lib.hid (HL2.out.below hb3 HL2.out.lt)
  have HNA := Lib.hid hN
  have HGA := Lib.hid g3
  have HD := Lib.hid (HD0.out.below HB3.out)
  clear HB2 HL2 HNA2 HG2 hb3 hN g2 g3 l0 l1 l2 llt HRC HRN
  have HREL : Hid (K15 W0 n F (.slice none 0 0) (.int .i64 0) W0) := Lib.hid ⟨0, none, 0, Nat.zero_le _, rfl, rfl, World.ownsRow_nil _ _ _ _, Below.refl _ _⟩
  go_wp2_with fail
  go_loopw [7, 8] (fun v i wr => K15 W0 n F v i wr) (fun _ i _ => n - (intOf i).toNat)
  case atStart => exact HREL.out
  case round =>
    clear HREL
    obtain ⟨k, ra, rc, hk, rfl, rfl, hr, hb⟩ := hrel
    have HRW := Lib.hid hr
    have HBW := Lib.hid hb
    clear hr hb
    by_cases hkn : k < n
    · have kI : (k : Int) < (n : Int) := by omega
      have k0 : (0 : Int) ≤ (k : Int) := by omega
      have HKN := Lib.hid hkn
      have HNM := Lib.hid (HNM0.out k hkn)
      obtain ⟨m, hm⟩ : ∃ m, fn k = m := ⟨_, rfl⟩
      rw [hm] at HNM
      clear hm
      go_wp2_with fail
      have HBd : Hid (Below W0.heap.size W0 wr.drew) := Lib.hid (HBW.out.trans ((Below.refl _ _).drew.mono HBW.out.size))
      have HRd : Hid (wr.drew.ownsRow W0.heap.size 51 1 (.slice ra k rc) k (cvL F k)) := Lib.hid (own_below15 HRW.out (Below.refl _ _).drew)
      have hrule : ∀ W : World, Below W0.heap.size W0 W → (W.cell? ⟨lb, 0, none⟩ = some (.int .i64 V) ∧ W.cell? ⟨lb, 1, none⟩ = some (.int .i64 S) ∧ W.cell? ⟨lb, 2, none⟩ = some (.int .i64 T)) ∧ (W.cell? ⟨gn, k * 4, none⟩ = some (.int .i64 m.k) ∧ W.cell? ⟨gn, k * 4 + 1, none⟩ = some (.int .i64 m.a) ∧ W.cell? ⟨gn, k * 4 + 2, none⟩ = some (.int .i64 m.b) ∧ W.cell? ⟨gn, k * 4 + 3, none⟩ = some (.int .i64 m.c)) := fun W h => by
        have q := HL3.out.below h HL3.out.lt
        exact ⟨⟨q.cell 0, q.cell 1, q.cell 2⟩, (HNM.out.1.below h HGN.out).cells⟩
      clear HRW HBW
      refine wp_region_held_drew (S := (fun W => Below W0.heap.size W0 W)) (by kernel_rfl) ?_ (fun hHeld => ?_)
      · exact HBd.out
      refine wpAnyH_take (i := 0) (v := ?_) rfl (by kernel_rfl) (by kernel_rfl) (by kernel_rfl) (fun _ _ _ h => h) (Or.inl ⟨by rfl, ?_⟩) (by assumption) ?_
      rotate_left
      · (intro w hSw; (try dsimp only at hSw); go_simp; try with_reducible rfl)
      try simp only [Act.put, List.setIfInBounds_toArray, List.set_cons_zero, List.set_cons_succ, List.getElem_toArray, List.getElem_cons_zero]
      refine wpAnyH_take (i := 1) (v := ?_) rfl (by kernel_rfl) (by kernel_rfl) (by kernel_rfl) (fun _ _ _ h => h) (Or.inl ⟨by rfl, ?_⟩) (by assumption) ?_
      rotate_left
      · (intro w hSw; (try dsimp only at hSw); go_simp; try with_reducible rfl)
      try simp only [Act.put, List.setIfInBounds_toArray, List.set_cons_zero, List.set_cons_succ, List.getElem_toArray, List.getElem_cons_zero, List.getElem_cons_succ]
      refine wpAnyH_take (i := 2) (v := ?_) rfl (by kernel_rfl) (by kernel_rfl) (by kernel_rfl) (fun _ _ _ h => h) (Or.inl ⟨by rfl, ?_⟩) (by assumption) ?_
      rotate_left
      · (intro w hSw; (try dsimp only at hSw); go_simp; try with_reducible rfl)
      try simp only [Act.put, List.setIfInBounds_toArray, List.set_cons_zero, List.set_cons_succ, List.getElem_toArray, List.getElem_cons_zero, List.getElem_cons_succ]
      refine wpAnyH_take (i := 3) (v := ?_) rfl (by kernel_rfl) (by kernel_rfl) (by kernel_rfl) (fun _ _ _ h => h) (Or.inl ⟨by rfl, ?_⟩) (by assumption) ?_
      rotate_left
      · (intro w hSw; (try dsimp only at hSw); go_simp; try with_reducible rfl)
      try simp only [Act.put, List.setIfInBounds_toArray, List.set_cons_zero, List.set_cons_succ, List.getElem_toArray, List.getElem_cons_zero, List.getElem_cons_succ]
      refine wpAnyH_take (i := 4) (v := ?_) rfl (by kernel_rfl) (by kernel_rfl) (by kernel_rfl) (fun _ _ _ h => h) (Or.inl ⟨by rfl, ?_⟩) (by assumption) ?_
      rotate_left
      · (intro w hSw; (try dsimp only at hSw); go_simp; try with_reducible rfl)
      try simp only [Act.put, List.setIfInBounds_toArray, List.set_cons_zero, List.set_cons_succ, List.getElem_toArray, List.getElem_cons_zero, List.getElem_cons_succ]
      refine wpAnyH_take (i := 5) (v := ?_) rfl (by kernel_rfl) (by kernel_rfl) (by kernel_rfl) (fun _ _ _ h => h) (Or.inl ⟨by rfl, ?_⟩) (by assumption) ?_
      rotate_left
      · (intro w hSw; (try dsimp only at hSw); go_simp; try with_reducible rfl)
      try simp only [Act.put, List.setIfInBounds_toArray, List.set_cons_zero, List.set_cons_succ, List.getElem_toArray, List.getElem_cons_zero, List.getElem_cons_succ]
      refine wpAnyH_take (i := 6) (v := ?_) rfl (by kernel_rfl) (by kernel_rfl) (by kernel_rfl) (fun _ _ _ h => h) (Or.inl ⟨by rfl, ?_⟩) (by assumption) ?_
      rotate_left
      · (intro w hSw; (try dsimp only at hSw); go_simp; try with_reducible rfl)
      try simp only [Act.put, List.setIfInBounds_toArray, List.set_cons_zero, List.set_cons_succ, List.getElem_toArray, List.getElem_cons_zero, List.getElem_cons_succ]
      refine wpAnyH_take (i := 7) (v := ?_) rfl (by kernel_rfl) (by kernel_rfl) (by kernel_rfl) (fun _ _ _ h => h) (Or.inl ⟨by rfl, ?_⟩) (by assumption) ?_
      rotate_left
      · (intro w hSw; (try dsimp only at hSw); go_simp; try with_reducible rfl)
      try simp only [Act.put, List.setIfInBounds_toArray, List.set_cons_zero, List.set_cons_succ, List.getElem_toArray, List.getElem_cons_zero, List.getElem_cons_succ]
      refine wpAnyH_ready (rs := [8]) (by kernel_rfl) (by simp) ?_
      refine AllReadyH.cons rfl (fun K hK => ?_) ?_
      rotate_left
      · exact AllReadyH.nil
      go_simp
      (refine (first_any HR.out HNM.out.2 (HD.out.below HBd.out) HDL.out (fun j hj => ⟨(HNA.out j hj).1.below HBd.out HGA.out, (HNA.out j hj).2⟩) HND.out (Nat.lt_of_lt_of_le HGA.out HBd.out.size)).mono ?_; rintro e w5 ⟨rfl, hb5⟩; rw [HF.out]; have HB5 := Lib.hid (HBd.out.trans (hb5.mono HBd.out.size)); have HR5 := Lib.hid (own_below15 HRd.out hb5); clear hb5 HBd HRd)
      go_wp2_with fail
      refine hK.out _ _ ?_ (fun hHeld => ?_)
      · (try dsimp only); (first | exact HB7.out | exact HB5.out | exact HB5.out.alloc HB5.out.size _)
      clear hK K
      try simp only [Act.put, List.setIfInBounds_toArray, List.set_cons_zero, List.set_cons_succ, List.getElem_toArray, List.getElem_cons_zero, List.getElem_cons_succ]
      refine wpAnyH_ready (rs := [9]) (by kernel_rfl) (by simp) ?_
      refine AllReadyH.cons rfl (fun K hK => ?_) ?_
      rotate_left
      · exact AllReadyH.nil
      go_simp
      refine hK.out _ _ ?_ (fun hHeld => ?_)
      · (try dsimp only); (first | exact HB7.out | exact HB5.out | exact HB5.out.alloc HB5.out.size _)
      clear hK K
      try simp only [Act.put, List.setIfInBounds_toArray, List.set_cons_zero, List.set_cons_succ, List.getElem_toArray, List.getElem_cons_zero, List.getElem_cons_succ]
      refine wpAnyH_ready (rs := [10]) (by kernel_rfl) (by simp) ?_
      refine AllReadyH.cons rfl (fun K hK => ?_) ?_
      rotate_left
      · exact AllReadyH.nil
      refine step_app15 (base := W0.heap.size) (v := .slice ra k rc) (xs := cvL F k) Try.underlying62 info_u64 rfl (by decide) (by rfl) _ _ (by rfl) (by rfl) (by rw [cvL_len]; exact World.ownsRow.alloc HR5.out _) (.int .u64 (F k)) rfl ⟨w5.heap.size, 0, none⟩ 1 (by rfl) (cell_new1 _ _ _) (by rw [cvL_len]; omega) (Nat.le_trans HB5.out.size (by simp)) ?_
      intro g9 cap9 w7 h7 hg7 hlt7
      have HB7 := Lib.hid (below_grown15 (World.ownsRow.alloc HR5.out (.cells #[.int .u64 (F k)] 51)) (HB5.out.alloc HB5.out.size (.cells #[.int .u64 (F k)] 51)) hg7)
      rw [cvL_len] at h7
      have HR7 : Hid (w7.ownsRow W0.heap.size 51 1 (.slice (some ⟨g9, 0, none⟩) (k + 1) cap9) (k + 1) (cvL F (k + 1))) := Lib.hid (by rw [cvL_succ]; rw [List.length_append, cvL_len] at h7; exact h7)
      rw [cvL_len]
      clear h7 hg7 hlt7 HR5 HB5
      refine hK.out _ _ ?_ (fun hHeld => ?_)
      · (try dsimp only); (first | exact HB7.out | exact HB5.out | exact HB5.out.alloc HB5.out.size _)
      clear hK K
      try simp only [Act.put, List.setIfInBounds_toArray, List.set_cons_zero, List.set_cons_succ, List.getElem_toArray, List.getElem_cons_zero, List.getElem_cons_succ]
      refine wpAnyH_take (i := 11) (v := ?_) rfl (by kernel_rfl) (by kernel_rfl) (by kernel_rfl) (fun _ _ _ h => h) (Or.inl ⟨by rfl, ?_⟩) (by assumption) ?_
      rotate_left
      · (intro w hSw; (try dsimp only at hSw); go_simp; try with_reducible rfl)
      try simp only [Act.put, List.setIfInBounds_toArray, List.set_cons_zero, List.set_cons_succ, List.getElem_toArray, List.getElem_cons_zero, List.getElem_cons_succ]
      refine wpAnyH_done (by kernel_rfl) ?_ _
      go_wp2_with fail
      go_roundw
      case rel => exact ⟨k + 1, some ⟨g9, 0, none⟩, cap9, HKN.out, by simp, rfl, HR7.out, HB7.out⟩
      case measure => simp [intOf]; omega

    · have ek : k = n := by omega
      subst ek
      have kN : ¬ (k : Int) < (k : Int) := by omega
      obtain ⟨cb, cc, zs, e9, hcb, hzs, hzv⟩ := own_open15 (xs := cvL F k) (by rw [cvL_len]; exact HRW.out) (by rw [cvL_len]; exact n1)
      rw [cvL_len] at e9
      injection e9 with e9 _ e8
      subst e9 e8
      have HZ := Lib.hid hzs
      have HZV : Hid (∀ j, j < k → wr.cell? ⟨cb, j, none⟩ = some (.int .u64 (F j))) := Lib.hid fun j hj => (hzs.cell j).trans (hzv j _ (cvL_at hj))
      have HCB := Lib.hid hcb
      clear hzs hzv hcb HRW hk hkn
      go_wp2_with fail
      go_ret

      refine ⟨cb, ⟨_, rfl⟩, Nat.le_trans HB3.out.size HCB.out, HZ.out.lt, ?_, HB3.out.trans (HBW.out.mono HB3.out.size)⟩
      rw [HF.out]
      exact HZV.out
end

end Go.Proofs.Ytaooglagddphnaa
