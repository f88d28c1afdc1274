/- All: the slots of all edges, by their vertices. -/
import Derived.Test.YtahabfjngeicmaaEkN
import Derived.Maps.AppendAt
namespace Go.Proofs.Ytahabfjngeicmaa
open Go.RowKit

set_option maxRecDepth 100000

/-- Slots, by their edges' vertices. -/
def oneS (ls : List E1) (u v : Nat) : List Nat := match ls.find? (fun x => decide (x.u = u ∧ x.v = v)) with
  | some x => [x.s]
  | none => []
def rowTo (ls : List E1) (u : Nat) : Nat → List Nat
  | 0 => []
  | v + 1 => rowTo ls u v ++ (if u < v then oneS ls u v else [])
def allTo (ls : List E1) (n : Nat) : Nat → List Nat
  | 0 => []
  | u + 1 => allTo ls n u ++ rowTo ls u n
section
variable {ls : List E1} {u v n k : Nat} {x : E1}
theorem oneS_none (h : ∀ x ∈ ls, ¬ (x.u = u ∧ x.v = v)) : oneS ls u v = [] := by
  unfold oneS
  rw [List.find?_eq_none.2 fun x hx => by simpa using h x hx]
theorem oneS_some {V S T : Int} {f : Nat → Int} (hE : ER V S T f ls) (hx : x ∈ ls) (e : x.u = u ∧ x.v = v) : oneS ls u v = [x.s] := by
  unfold oneS
  cases h : ls.find? (fun x => decide (x.u = u ∧ x.v = v)) with
  | none => exact absurd e (by have := List.find?_eq_none.1 h x hx; simpa using this)
  | some y =>
    have h1 := List.find?_some h
    have h2 := List.mem_of_find?_eq_some h
    simp only [decide_eq_true_eq] at h1
    obtain ⟨i, hi⟩ := List.mem_iff_getElem?.1 hx
    obtain ⟨j, hj⟩ := List.mem_iff_getElem?.1 h2
    have := hE.pair1 hi hj (e.1.trans h1.1.symm) (e.2.trans h1.2.symm)
    subst this
    rw [hi] at hj
    injection hj with hj
    rw [hj]
theorem oneS_len : (oneS ls u v).length ≤ 1 := by
  unfold oneS; split <;> simp
theorem rowTo_low : ∀ v, v ≤ u + 1 → rowTo ls u v = []
  | 0, _ => rfl
  | v + 1, h => by
    show rowTo ls u v ++ (if u < v then oneS ls u v else []) = []
    rw [rowTo_low v (by omega), if_neg (by omega)]; rfl
theorem rowTo_len : ∀ v, (rowTo ls u v).length ≤ v
  | 0 => Nat.le_refl _
  | v + 1 => by
    show (rowTo ls u v ++ (if u < v then oneS ls u v else [])).length ≤ v + 1
    have h1 := rowTo_len v
    have h2 := oneS_len (ls := ls) (u := u) (v := v)
    rw [List.length_append]
    split
    · omega
    · simp; omega
theorem allTo_len : ∀ u, (allTo ls n u).length ≤ u * n
  | 0 => by simp [allTo]
  | u + 1 => by
    show (allTo ls n u ++ rowTo ls u n).length ≤ (u + 1) * n
    have h1 := allTo_len u
    have h2 := rowTo_len (ls := ls) (u := u) n
    rw [List.length_append, Nat.succ_mul]; omega
theorem rowTo_pre : ∀ v k, ∃ r, rowTo ls u (v + k) = rowTo ls u v ++ r
  | v, 0 => ⟨[], by simp⟩
  | v, k + 1 => by
    obtain ⟨r, hr⟩ := rowTo_pre v k
    refine ⟨r ++ (if u < v + k then oneS ls u (v + k) else []), ?_⟩
    show rowTo ls u (v + k) ++ _ = _
    rw [hr, List.append_assoc]; rfl
theorem allTo_pre : ∀ u k, ∃ r, allTo ls n (u + k) = allTo ls n u ++ r
  | u, 0 => ⟨[], by simp⟩
  | u, k + 1 => by
    obtain ⟨r, hr⟩ := allTo_pre u k
    refine ⟨r ++ rowTo ls (u + k) n, ?_⟩
    show allTo ls n (u + k) ++ _ = _
    rw [hr, List.append_assoc]; rfl
/-- What has been gone by stands ahead. -/
theorem all_pre (hu : u < n) (hv : v ≤ n) : ∃ r, allTo ls n n = (allTo ls n u ++ rowTo ls u v) ++ r := by
  obtain ⟨r1, h1⟩ := allTo_pre (ls := ls) (n := n) (u + 1) (n - (u + 1))
  obtain ⟨r2, h2⟩ := rowTo_pre (ls := ls) (u := u) v (n - v)
  rw [show u + 1 + (n - (u + 1)) = n by omega] at h1
  rw [show v + (n - v) = n by omega] at h2
  refine ⟨r2 ++ r1, ?_⟩
  rw [h1]
  show (allTo ls n u ++ rowTo ls u n) ++ r1 = _
  rw [h2]; simp [List.append_assoc]
end

/-- Numbers in a slice of one's own. -/
def RN (w : World) (base : Nat) (v : Value) (l : List Nat) : Prop := w.ownsRow base 3 1 v l.length (l.map fun s : Nat => Value.int .i64 (s : Int))
section
variable {w w' : World} {base : Nat} {v : Value} {l : List Nat}
theorem RN.li (h : RN w base v l) : LI w v l := (LI.of_owns h).1
theorem RN.nil (w : World) (base : Nat) : RN w base (.slice none 0 0) [] := World.ownsRow_nil _ _ _ _
theorem RN.lt (h : RN w base v l) : ∀ k, v.ownBlock = some k → base ≤ k ∧ k < w.heap.size := World.ownsRow.lt h
theorem RN.kept_of (h : RN w base v l) (hb : ∀ i, v.ownBlock = some i → w'.heap[i]? = w.heap[i]?) : RN w' base v l := by
  refine ⟨h.1, ?_⟩
  rcases h.2 with hn | ⟨g, cap, cur, rfl, hg, hgg, rest⟩
  · exact .inl hn
  · exact .inr ⟨g, cap, cur, rfl, hg, (hb g rfl).trans hgg, rest⟩
theorem RN.own (h : RN w base v l) : ∀ i, v.ownBlock = some i → base ≤ i ∧ ∃ cs, Blk w i 3 cs := by
  rcases h.2 with ⟨rfl, _⟩ | ⟨g, cap, cur, rfl, hg, hgg, rest⟩
  · intro i hi; cases hi
  · intro i hi
    have e : g = i := by injection hi
    subst e
    exact ⟨hg, _, hgg⟩
theorem RN.below (h : RN w base v l) (hb : Below w.heap.size w w') : RN w' base v l := h.kept_of fun i hi => hb.block i (h.lt i hi).2
theorem RN.slice (h : RN w base v l) : ∃ a c, v = .slice a l.length c := by
  rcases h.2 with ⟨rfl, h0⟩ | ⟨g, cap, cur, rfl, _⟩
  · exact ⟨none, 0, by rw [h0]⟩
  · exact ⟨_, cap, rfl⟩
/-- append of one number onto a row of one's own. -/
theorem wpList_append_rn (w : World) {ops : Array Oper} {rest : List Oper} {o : Oper} {a : Act} {Q : Exit → Act → World → Prop} (hgd : o.guard = none) (s x : Operand)
    (ho : o.op = .call { callee := .builtin .append, args := #[s, x], argTypes := #[53, 53] })
    {base c : Nat} {v : Value} {l : List Nat} (hs : a.eval s = v) (h : RN w base v l) (hx : a.eval x = .slice (some ⟨w.heap.size, 0, none⟩) 1 1) (hl : l.length ≤ 90000) (hb : base ≤ w.heap.size)
    (hK : ∀ v' w', RN w' base v' (l ++ [c]) → (w.alloc (.cells #[.int .i64 (c : Int)] 3)).grownBy w' v.ownBlock → wpList Try.prog ops Q rest (a.put o.dst v') w') : wpList Try.prog ops Q (o :: rest) a (w.alloc (.cells #[.int .i64 (c : Int)] 3)) := by
  obtain ⟨i0, hi0, hz0, hz1, hz2⟩ := info_parts info_i
  have h' : RN (w.alloc (.cells #[.int .i64 (c : Int)] 3)) base v l := World.ownsRow.alloc h _
  refine wpList_append_own_at _ hgd s x 53 ho base 3 i0 _ 1 8 Try.underlying53 hi0 hz0 hz1 hz2 rfl (by omega) v l.length _ hs h' ⟨w.heap.size, 0, none⟩ 1 1 [.int .i64 (c : Int)] hx (by simp) ?_ ?_ (by simp only [maxLen]; omega) (by omega) (Nat.le_trans hb (by simp)) ?_
  · intro j u hj
    match j, hj with
    | 0, hj => simp at hj; subst hj; rw [Addr.add_lit, (Blk.new w _ _).cell]; rfl
    | j + 1, hj => simp at hj
  · intro u hu; simp at hu; subst hu; rfl
  · intro v' w' h1 h2 _ _
    refine hK v' w' ?_ h2
    unfold RN
    rw [List.length_append, List.map_append]; exact h1
end

section
variable {w w' w0 : World} {V S T : Int} {p gb cap m : Nat} {f : Nat → Int} {ls : List E1}
/-- In All. -/
structure AL (w0 W : World) (b : Nat) (V S T : Int) (p gb cap m : Nat) (f : Nat → Int) (v : Value) (l : List Nat) : Prop where
  ex : EX w0 W b V S T p gb cap m f
  rn : RN W w0.heap.size v l
  hb : w0.heap.size ≤ b
theorem EX.more {b m' : Nat} {f : Nat → Int} (h : EX w0 w b V S T p gb cap m f) (hm : m ≤ m') : EX w0 w b V S T p gb cap m' f := ⟨h.e, h.m.more hm, h.o⟩
theorem AL.next {b m' : Nat} {f : Nat → Int} {v : Value} {l : List Nat} (h : AL w0 w b V S T p gb cap m f v l) (hm : EM w' V S T p gb cap m' f) (ho : Only p gb w w') : AL w0 w' b V S T p gb cap m' f v l := by
  refine ⟨h.ex.next hm ho, h.rn.kept_of fun i hi => ?_, h.hb⟩
  obtain ⟨_, cs, hz⟩ := h.rn.own i hi
  exact (Blk.em hz h.ex.m ho (by decide) (by decide)).trans hz.symm
theorem AL.appended {b : Nat} {f : Nat → Int} {v v' : Value} {l l' : List Nat} {o : Obj} (h : AL w0 w b V S T p gb cap m f v l) (hg : (w.alloc o).grownBy w' v.ownBlock) (hR : RN w' w0.heap.size v' l') : AL w0 w' b V S T p gb cap m f v' l' := by
  have hr := h.rn.own
  have kp : ∀ {i : Nat} {ty : TypeId} {cs : Array Value}, Blk w i ty cs → ty ≠ 3 → Blk w' i ty cs := fun {i ty cs} hz ht => (hg.block i (hz.alloc o).lt fun e => by
    obtain ⟨_, cs', hz'⟩ := hr i e.symm
    exact Blk.ne_ hz hz' ht rfl).trans (hz.alloc o)
  obtain ⟨hR', c, A, C⟩ := h.ex.m
  obtain ⟨zs, hz, he⟩ := A.cells
  have hon : Only p gb w0 w' := by
    have h0 := h.ex.o
    refine ⟨hg.os.trans h0.os, hg.tape.trans h0.tape, hg.output.trans h0.output, Nat.le_trans (Nat.le_trans h0.size (by simp)) hg.size, fun i hi h1 h2 => ?_⟩
    refine (hg.block i (Nat.lt_of_lt_of_le hi (Nat.le_trans h0.size (by simp))) fun e => ?_).trans ((Below.heap_alloc w o i (Nat.lt_of_lt_of_le hi h0.size)).trans (h0.block i hi h1 h2))
    have := (hr i e.symm).1
    omega
  exact ⟨⟨kp h.ex.e (by decide), ⟨hR', c, ⟨kp A.own (by decide), ⟨zs, kp hz (by decide), he⟩, A.le, A.few, A.fit⟩, C⟩, hon⟩, hR, h.hb⟩
theorem AL.grown {b : Nat} {f : Nat → Int} {v v' : Value} {l l' : List Nat} (h : AL w0 w b V S T p gb cap m f v l) (hb : Below w.heap.size w w') (hr : RN w' w0.heap.size v' l') : AL w0 w' b V S T p gb cap m f v' l' := ⟨h.ex.below hb, hr, h.hb⟩
def AlR1 (w0 : World) (b : Nat) (V S T : Int) (p gb cap m n : Nat) (f : Nat → Int) (ls : List E1) (v i : Value) (W : World) : Prop :=
  ∃ k, k ≤ n ∧ i = .int .i64 ((k : Nat) : Int) ∧ AL w0 W b V S T p gb cap (m + n * k) f v (allTo ls n k)
def AlR2 (w0 : World) (b : Nat) (V S T : Int) (p gb cap m n u : Nat) (f : Nat → Int) (ls : List E1) (v i : Value) (W : World) : Prop :=
  ∃ k, k ≤ n ∧ u + 1 ≤ k ∧ i = .int .i64 ((k : Nat) : Int) ∧ AL w0 W b V S T p gb cap (m + n * u + (k - (u + 1))) f v (allTo ls n u ++ rowTo ls u k)
set_option maxHeartbeats 4000000 in
theorem all_any (h : EM w V S T p gb cap m f) (hE : ER V S T f ls) (hm : m ≤ 800000) :
    Calls Try.prog 26 #[vE V S T p] w fun e w' => ∃ v, e = .returned v ∧ RN w' w.heap.size v (allTo ls V.toNat V.toNat) ∧ EM w' V S T p gb cap (m + 256) f ∧ Only p gb w w' := by
  obtain ⟨n, rfl⟩ : ∃ n : Nat, V = (n : Int) := ⟨V.toNat, by have := h.hR.v1; omega⟩
  have n16 : (n : Int) ≤ 16 := by have := h.hR.v2; omega
  rw [Int.toNat_natCast]
  have H := Lib.hid (EX.new h)
  have HR := Lib.hid h.hR.yes
  have HE := Lib.hid hE
  clear h hE
  go_enter Try.func26, Try.ntmps26
  go_wp2_with fail
  generalize w.alloc (.cells #[.int .i64 (n : Int), .int .i64 S, .int .i64 T, .iface 95 (pmV p)] 64) = w1 at H ⊢
  have hbw : w.heap.size ≤ w.heap.size := Nat.le_refl _
  refine (right_any _ _ _ _).mono ?_; rintro e w2 ⟨rfl, hb2⟩; rw [HR.out]
  have H2 := Lib.hid (H.out.below hb2)
  clear H hb2
  obtain ⟨c0, c1, c2, c3⟩ := H2.out.e.cells
  have blt := H2.out.e.lt
  go_wp2_with fail
  clear c0 c1 c2 c3 blt
  have HRel : Hid (AlR1 w w.heap.size (n : Int) S T p gb cap m n f ls (.slice none 0 0) (.int .i64 0) w2) := Lib.hid ⟨0, Nat.zero_le _, rfl, H2.out, RN.nil _ _, hbw⟩
  clear H2
  go_loopw [3, 16] (fun a i wr => AlR1 w w.heap.size (n : Int) S T p gb cap m n f ls a i wr) (fun _ i _ => n - (intOf i).toNat)
  case atStart => exact HRel.out
  case round =>
    clear HRel
    obtain ⟨u, hu, rfl, hA⟩ := hrel
    obtain ⟨ra, rc, rfl⟩ := hA.rn.slice
    obtain ⟨rn, hrn⟩ : ∃ N, (allTo ls n u).length = N := ⟨_, rfl⟩
    have HRN := Lib.hid hrn
    rw [hrn] at hA ⊢
    have HA := Lib.hid hA
    clear hA hrn
    by_cases hun : u < n
    · have uI : (u : Int) < (n : Int) := by omega
      have u0 : (0 : Int) ≤ (u : Int) := by omega
      have u9 : (u : Int) < 16 := by omega
      have hmul : n * u + n ≤ n * (u + 1) := by rw [Nat.mul_succ]; exact Nat.le_refl _
      have hmul2 : n * (u + 1) ≤ 16 * 16 := Nat.mul_le_mul (by omega) (by omega)
      have HM := Lib.hid (And.intro hmul hmul2)
      clear hmul hmul2
      have HRel2 : Hid (AlR2 w w.heap.size (n : Int) S T p gb cap m n u f ls (.slice ra rn rc) (.int .i64 ((u : Int) + 1)) wr) := Lib.hid ⟨u + 1, by omega, Nat.le_refl _, by simp, by rw [rowTo_low _ (Nat.le_refl _), List.append_nil, Nat.sub_self, Nat.add_zero]; exact HA.out⟩
      obtain ⟨wO, rfl⟩ : ∃ w1 : World, w1 = wr := ⟨_, rfl⟩
      clear HA
      go_wp2_with fail
      go_loopw [3, 5] (fun a i wr => AlR2 w w.heap.size (n : Int) S T p gb cap m n u f ls a i wr) (fun _ i _ => n - (intOf i).toNat)
      case atStart => exact HRel2.out
      case round =>
        clear HRel2 HRN
        obtain ⟨v, hv, huv, rfl, hA⟩ := hrel
        obtain ⟨ra2, rc2, rfl⟩ := hA.rn.slice
        obtain ⟨rn2, hrn⟩ : ∃ N, (allTo ls n u ++ rowTo ls u v).length = N := ⟨_, rfl⟩
        have HRN := Lib.hid hrn
        rw [hrn] at hA ⊢
        have HA := Lib.hid hA
        clear hA hrn
        obtain ⟨c0, c1, c2, c3⟩ := HA.out.ex.e.cells
        have blt := HA.out.ex.e.lt
        by_cases hvn : v < n
        · have vI : (v : Int) < (n : Int) := by omega
          have v0 : (0 : Int) ≤ (v : Int) := by omega
          have HV : Hid ((u : Int) < (n : Int) ∧ (v : Int) < (n : Int) ∧ u ≠ v) := Lib.hid ⟨uI, vI, by omega⟩
          have HB : Hid (m + n * u + (v - (u + 1)) ≤ 900000) := Lib.hid (by have := HM.out; omega)
          have HNX : Hid (m + n * u + (v - (u + 1)) + 1 = m + n * u + (v + 1 - (u + 1))) := Lib.hid (by omega)
          have vs1 : (((v + 1 : Nat) : Int)) = (v : Int) + 1 := by simp
          go_wp2_with fail
          clear c0 c1 c2 c3 blt
          have HMM : Hid (min u v = u ∧ max u v = v ∧ u < v) := Lib.hid (by omega)
          have HLEN : Hid ((allTo ls n u ++ rowTo ls u v).length ≤ 90000) := Lib.hid (by
            rw [List.length_append]
            have h1 := allTo_len (ls := ls) (n := n) u
            have h2 := rowTo_len (ls := ls) (u := u) v
            have h3 : u * n ≤ 16 * 16 := Nat.mul_le_mul (by omega) (by omega)
            omega)
          by_cases hx : ∃ x ∈ ls, x.u = min u v ∧ x.v = max u v
          · obtain ⟨x, hx, ex⟩ := hx
            have HL9 : Hid (allTo ls n u ++ (rowTo ls u v ++ [x.s]) = allTo ls n u ++ rowTo ls u (v + 1)) := Lib.hid (by
              show _ = allTo ls n u ++ (rowTo ls u v ++ (if u < v then oneS ls u v else []))
              rw [if_pos HMM.out.2.2, oneS_some HE.out hx ⟨ex.1.trans HMM.out.1, ex.2.trans HMM.out.2.1⟩])
            refine (find_some HA.out.ex.m HE.out HV.out.1 HV.out.2.1 HV.out.2.2 hx ex (Nat.le_trans HB.out (by omega))).mono ?_; rintro e w3 ⟨rfl, A3, O3⟩
            have HA3 := Lib.hid (HA.out.next A3 O3)
            clear HA hx ex A3 O3
            have hrnl := HRN.out
            go_wp2_with (at_builtin; go_loud (refine wpList_append_rn (c := x.s) w3 rfl _ _ rfl rfl HA3.out.rn rfl HLEN.out (Nat.le_trans HA3.out.hb (Nat.le_of_lt HA3.out.ex.e.lt)) ?_))
            intro v5 w5 hR5 hg5
            try rw [List.append_assoc] at hR5
            have HA5 := Lib.hid (HA3.out.appended hg5 hR5)
            rw [HL9.out, HNX.out] at HA5
            clear hg5 hR5 hrnl HA3
            go_wp2_with fail
            exact ⟨⟨v + 1, by omega, by omega, by simp, HA5.out⟩, by simp [intOf]; omega⟩
          · have hn9 : ∀ x ∈ ls, ¬ (x.u = min u v ∧ x.v = max u v) := fun x h1 h2 => hx ⟨x, h1, h2⟩
            have HL9 : Hid (allTo ls n u ++ rowTo ls u v = allTo ls n u ++ rowTo ls u (v + 1)) := Lib.hid (by
              show _ = allTo ls n u ++ (rowTo ls u v ++ (if u < v then oneS ls u v else []))
              rw [if_pos HMM.out.2.2, oneS_none (fun x h1 h2 => hn9 x h1 ⟨h2.1.trans HMM.out.1.symm, h2.2.trans HMM.out.2.1.symm⟩), List.append_nil])
            refine (find_none HA.out.ex.m HE.out HV.out.1 HV.out.2.1 HV.out.2.2 hn9 (Nat.le_trans HB.out (by omega))).mono ?_; rintro e w3 ⟨rfl, A3, O3⟩
            have HA3 := Lib.hid (HA.out.next A3 O3)
            clear HA hx hn9 A3 O3
            go_wp2_with fail
            exact ⟨⟨v + 1, by omega, by omega, by simp, by rw [← HL9.out, ← HNX.out]; exact HA3.out⟩, by simp [intOf]; omega⟩
        · have ek : v = n := by omega
          subst ek
          have kI : ¬ (v : Int) < (v : Int) := by omega
          clear hv hvn
          go_wp2_with fail
          exact ⟨⟨u + 1, by omega, by simp, ⟨HA.out.ex.more (by have := HM.out; omega), HA.out.rn, HA.out.hb⟩⟩, by simp [intOf]; omega⟩
    · have ek : u = n := by omega
      subst ek
      have kI : ¬ (u : Int) < (u : Int) := by omega
      clear hu hun
      have hmul2 : u * u ≤ 16 * 16 := Nat.mul_le_mul (by omega) (by omega)
      have HM := Lib.hid hmul2
      clear hmul2
      go_wp2_with fail
      go_ret
      exact ⟨_, rfl, HA.out.rn, HA.out.ex.m.more (by have := HM.out; omega), HA.out.ex.o⟩
end
end Go.Proofs.Ytahabfjngeicmaa
