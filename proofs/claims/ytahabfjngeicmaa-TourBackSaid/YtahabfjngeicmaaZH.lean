/- The reference; a level's rows; a play in memory. -/
import Derived.Test.YtahabfjngeicmaaZG
import Derived.Test.YtahabfjngeicmaaZF
import Derived.BigQuiet

/- The reference's has, Begun, Linked; the law's same. -/
namespace Go.Proofs.Ytahabfjngeicmaa
open Go.RowKit

set_option maxRecDepth 100000

section
variable {w : World} {v u : Value} {l a b : List Nat} {x : Nat}
def HsRel (w0 : World) (l : List Nat) (x : Nat) (i : Value) (W : World) : Prop := W = w0 ∧ ∃ k, k ≤ l.length ∧ i = .int .i64 ((k : Nat) : Int) ∧ x ∉ l.take k
def SaRel (w0 : World) (l : List Nat) (v u : Value) (i : Value) (W : World) : Prop := Below w0.heap.size w0 W ∧ LI W v l ∧ LI W u l ∧ ∃ k, k ≤ l.length ∧ i = .int .i64 ((k : Nat) : Int)
theorem same_yes (h : LI w v l) (h2 : LI w u l) (hl : l.length ≤ 100000) :
    Calls Try.prog 19 #[v, u] w fun e w' => e = .returned (.bool true) ∧ Below w.heap.size w w' := by
  obtain ⟨a0, c0, rfl, _⟩ := h.shape
  obtain ⟨a2, c2, rfl, _⟩ := h2.shape
  obtain ⟨n, hn⟩ : ∃ n, l.length = n := ⟨_, rfl⟩
  have HN := Lib.hid hn
  have HRel : Hid (SaRel w l (.slice a0 n c0) (.slice a2 n c2) (.int .i64 0) w) := Lib.hid ⟨Below.refl _ _, by rw [← hn]; exact h, by rw [← hn]; exact h2, 0, Nat.zero_le _, rfl⟩
  rw [hn] at hl
  rw [hn]
  have nI : (n : Int) ≤ 100000 := by omega
  have nne : ((n : Int) != (n : Int)) = false := bne_self_eq_false _
  clear h h2 hn
  go_enter Try.func19, Try.ntmps19
  go_wp2_with fail
  go_loopw [13] (fun i wr => SaRel w l (.slice a0 n c0) (.slice a2 n c2) i wr) (fun i _ => n - (intOf i).toNat)
  case atStart => exact HRel.out
  case round =>
    clear HRel
    obtain ⟨hb, hL, hL2, k, hk, rfl⟩ := hrel
    have HB := Lib.hid hb
    have H1 := Lib.hid hL
    have H2 := Lib.hid hL2
    rw [HN.out] at hk
    clear hb hL hL2
    by_cases hkn : k < n
    · obtain ⟨y, hy⟩ : ∃ y, l[k]? = some y := ⟨_, List.getElem?_eq_getElem (by have := HN.out; omega)⟩
      obtain ⟨b1, o1, e1, c1⟩ := H1.out.at hy
      obtain ⟨b2, o2, e2, c3⟩ := H2.out.at hy
      subst e1 e2
      have kI : (k : Int) < (n : Int) := by omega
      have k0 : (0 : Int) ≤ (k : Int) := by omega
      have yy : ((y : Int) != (y : Int)) = false := bne_self_eq_false _
      clear hy
      go_upto_region 6 with fail
      go_quiet (fail)
      have HB2 := Lib.hid (HB.out.trans ((drewN_below wr nq).mono HB.out.size))
      have H12 := Lib.hid (H1.out.below (drewN_below wr nq))
      have H22 := Lib.hid (H2.out.below (drewN_below wr nq))
      generalize wr.drewN nq = W2 at HB2 H12 H22 ⊢
      clear c1 c3 H1 H2 HB
      go_wp2_with fail
      go_roundw
      case rel => exact ⟨HB2.out, H12.out, H22.out, k + 1, by have := HN.out; omega, by simp⟩
      case measure => simp [intOf]; omega
    · have ek : k = n := by omega
      subst ek
      have kI : ¬ (k : Int) < (k : Int) := by omega
      clear hk hkn
      go_wp2_with fail
      go_ret
      exact ⟨rfl, HB.out⟩
end

end Go.Proofs.Ytahabfjngeicmaa

/- The reference's Begun and Linked. -/
namespace Go.Proofs.Ytahabfjngeicmaa
open Go.RowKit

set_option maxRecDepth 100000

section
variable {w : World} {v u : Value} {a b : List Nat} {x : Nat}
theorem RI.below {w w' : World} {base : Nat} {v : Value} {l : List Nat} (h : RI w base v l) (hb : Below w.heap.size w w') : RI w' base v l := by
  refine ⟨h.1, ?_⟩
  rcases h.2 with hn | ⟨g, cap, cur, rfl, hg, hgg, rest⟩
  · exact .inl hn
  · exact .inr ⟨g, cap, cur, rfl, hg, (hb.block g (h.lt g rfl).2).trans hgg, rest⟩
/-- An old list, behind an append to a row of one's own. -/
theorem LI.old {w w' : World} {u v : Value} {l : List Nat} {B : Nat} (h : LI w u l) (hg : w.grownBy w' v.ownBlock) (hr : ∀ r, v.ownBlock = some r → B ≤ r) (hu : ∀ b, bk u = some b → b < B) : LI w' u l := h.keep fun b hb => hg.block b (h.lt b hb) fun e => by have h1 := hr b e.symm; have h2 := hu b hb; omega
/-- append of one number onto a row of one's own. -/
theorem wpList_append_one (w : World) {ops : Array Oper} {rest : List Oper} {o : Oper} {a : Act} {Q : Exit → Act → World → Prop} (hgd : o.guard = none) (s x : Operand)
    (ho : o.op = .call { callee := .builtin .append, args := #[s, x], argTypes := #[53, 53] })
    {base c : Nat} {v : Value} {l : List Nat} (hs : a.eval s = v) (h : RI w base v l) (hx : a.eval x = .slice (some ⟨w.heap.size, 0, none⟩) 1 1) (hl : l.length ≤ 90000) (hb : base ≤ w.heap.size)
    (hK : ∀ v' w', RI w' base v' (l ++ [c]) → Below base w w' → (∀ (u : Value) (l2 : List Nat), LI w u l2 → (∀ b, bk u = some b → b < base) → LI w' u l2) → wpList Try.prog ops Q rest (a.put o.dst v') w') : wpList Try.prog ops Q (o :: rest) a (w.alloc (.cells #[.int .i64 (c : Int)] 3)) := by
  have h' : RI (w.alloc (.cells #[.int .i64 (c : Int)] 3)) base v l := World.ownsRow.alloc h _
  refine wpList_append_ri _ hgd s x ho hs h' hx (LI.one w c) (by simp; omega) (Nat.le_trans hb (by simp)) ?_
  intro v' w' hR hg
  refine hK v' w' hR (((Below.refl base w).alloc hb _).grown hg (Nat.le_trans hb (by simp)) (fun r hr => (h'.lt r hr).1)) fun u l2 hu hub => ?_
  exact LI.old (B := base) (hu.alloc _) hg (fun r hr => (h'.lt r hr).1) hub
/-- append of a list onto a row of one's own. -/
theorem wpList_append_many (w : World) {ops : Array Oper} {rest : List Oper} {o : Oper} {a : Act} {Q : Exit → Act → World → Prop} (hgd : o.guard = none) (s x : Operand)
    (ho : o.op = .call { callee := .builtin .append, args := #[s, x], argTypes := #[53, 53] })
    {base : Nat} {v u : Value} {l l2 : List Nat} (hs : a.eval s = v) (h : RI w base v l) (hx : a.eval x = u) (hu : LI w u l2) (hl : l.length + l2.length ≤ 100000) (hb : base ≤ w.heap.size)
    (hK : ∀ v' w', RI w' base v' (l ++ l2) → Below base w w' → (∀ (u : Value) (l2 : List Nat), LI w u l2 → (∀ b, bk u = some b → b < base) → LI w' u l2) → wpList Try.prog ops Q rest (a.put o.dst v') w') : wpList Try.prog ops Q (o :: rest) a w := by
  refine wpList_append_ri w hgd s x ho hs h hx hu hl hb ?_
  intro v' w' hR hg
  exact hK v' w' hR ((Below.refl base w).grown hg hb (fun r hr => (h.lt r hr).1)) fun u l2 hu hub => LI.old (B := base) hu hg (fun r hr => (h.lt r hr).1) hub
def BeRel (w0 : World) (n na : Nat) (s i : Value) (W : World) : Prop := W = w0 ∧ ∃ k, k ≤ n ∧ i = .int .i64 ((k : Nat) : Int) ∧ s = .int .i64 (((if na < k then na else 0 : Nat)) : Int)
set_option maxHeartbeats 1000000 in
theorem begun_row (h : LI w v (a ++ x :: b)) (hn : (a ++ x :: b).Nodup) (hl : (a ++ x :: b).length ≤ 50000) :
    Calls Try.prog 47 #[v, .int .i64 (x : Int)] w fun e w' => ∃ r, e = .returned r ∧ RI w' w.heap.size r (x :: b ++ a) ∧ Below w.heap.size w w' := by
  obtain ⟨rb, off, c0, rfl, _, hcl, _⟩ := h.open_ (by simp)
  have H := Lib.hid h
  have HND := Lib.hid hn
  obtain ⟨n, hnn⟩ : ∃ n, (a ++ x :: b).length = n := ⟨_, rfl⟩
  have HN := Lib.hid hnn
  obtain ⟨na, hna⟩ : ∃ n, a.length = n := ⟨_, rfl⟩
  have HNA := Lib.hid hna
  rw [hnn] at H hl hcl
  rw [hnn]
  have nI : (n : Int) ≤ 50000 := by omega
  have hlt : na < n := by rw [← hnn, ← hna]; simp
  have HAT : Hid (∀ k y, (a ++ x :: b)[k]? = some y → (y = x ↔ k = na)) := Lib.hid fun k y hy => by
    have h1 : (a ++ x :: b)[na]? = some x := by rw [← hna]; simp
    constructor
    · intro e
      subst e
      obtain ⟨q1, q2⟩ := List.getElem?_eq_some_iff.1 hy
      obtain ⟨q3, q4⟩ := List.getElem?_eq_some_iff.1 h1
      exact (List.getElem_inj hn).1 (q2.trans q4.symm)
    · intro e
      subst e
      rw [h1] at hy
      exact (Option.some.inj hy).symm
  clear h hn hnn hna
  have HRel : Hid (BeRel w n na (.int .i64 0) (.int .i64 0) w) := Lib.hid ⟨rfl, 0, Nat.zero_le _, rfl, rfl⟩
  go_enter Try.func47, Try.ntmps47
  go_wp2_with fail
  go_loopw [5, 6] (fun s i wr => BeRel w n na s i wr) (fun _ i _ => n - (intOf i).toNat)
  case atStart => exact HRel.out
  case round =>
    clear HRel
    obtain ⟨rfl, k, hk, rfl, rfl⟩ := hrel
    by_cases hkn : k < n
    · obtain ⟨y, hy⟩ : ∃ y, (a ++ x :: b)[k]? = some y := ⟨_, List.getElem?_eq_getElem (by have := HN.out; omega)⟩
      have c1 := H.out.cell_at hy
      have HY := Lib.hid (HAT.out k y hy)
      have kI : (k : Int) < (n : Int) := by omega
      have k0 : (0 : Int) ≤ (k : Int) := by omega
      obtain ⟨at0, hat⟩ : ∃ z, (if na < k then na else 0) = z := ⟨_, rfl⟩
      have HAT0 := Lib.hid hat
      rw [hat]
      clear hy hat
      by_cases e : y = x
      · subst e
        have eb : ((y : Int) == (y : Int)) = true := beq_self_eq_true _
        have HK := Lib.hid (HY.out.1 rfl)
        go_wp2_with fail
        go_roundw
        case rel => exact ⟨rfl, k + 1, hkn, by simp, by rw [← HK.out, if_pos (by omega)]⟩
        case measure => simp [intOf]; omega
      · have eb : ((y : Int) == (x : Int)) = false := beq_eq_false_iff_ne.2 (by omega)
        have HK : Hid (k ≠ na) := Lib.hid fun e2 => e (HY.out.2 e2)
        clear e
        go_wp2_with fail
        go_roundw
        case rel =>
          refine ⟨rfl, k + 1, hkn, by simp, ?_⟩
          have h1 := HAT0.out
          have h2 := HK.out
          by_cases h3 : na < k
          · rw [if_pos h3] at h1; rw [if_pos (by omega), h1]
          · rw [if_neg h3] at h1; rw [if_neg (by omega), h1]
        case measure => simp [intOf]; omega
    · have ek : k = n := by omega
      subst ek
      have kI : ¬ (k : Int) < (k : Int) := by omega
      rw [if_pos hlt]
      clear hk hkn
      have hn2 : na ≤ c0 := by omega
      have hn3 : (na : Int) ≤ (c0 : Int) := by omega
      have hn4 : (na : Int) ≤ (k : Int) := by omega
      have hn5 : (0 : Int) ≤ (na : Int) := by omega
      have hvc : ¬ c0 = na := by omega
      have L1 := H.out.cutFrom (k := na) (by omega)
      rw [if_neg hvc] at L1
      have HL1 : Hid (LI wr (.slice (some ⟨rb, off + na, none⟩) (k - na) (c0 - na)) (x :: b)) := Lib.hid (by
        have e : (a ++ x :: b).drop na = x :: b := by rw [← HNA.out]; simp
        rw [e] at L1; exact L1)
      have HL2 : Hid (LI wr (.slice (some ⟨rb, off, none⟩) na c0) a) := Lib.hid (by
        have h2 := H.out.cutTo (k := na) (by omega)
        have e : (a ++ x :: b).take na = a := by rw [← HNA.out]; simp
        rw [e] at h2; exact h2)
      clear L1
      go_wp2_with (at_builtin; go_loud (refine wpList_append_ri _ rfl _ _ rfl rfl (RI.nil _ wr.heap.size) rfl HL1.out (by have := HN.out; simp at *; omega) (Nat.le_refl _) ?_))
      intro v1 w1 hR1 hg1
      have HR1 := Lib.hid hR1
      have HB1 := Lib.hid ((Below.refl wr.heap.size wr).grown hg1 (Nat.le_refl _) (fun r hr => by cases hr))
      have HL3 := Lib.hid (HL2.out.below HB1.out)
      clear hR1 hg1 HL1 HL2
      obtain ⟨a1, k1, rfl, _⟩ := HR1.out.li.shape
      obtain ⟨n1, hn1⟩ : ∃ n, (x :: b).length = n := ⟨_, rfl⟩
      have HN1 := Lib.hid hn1
      rw [hn1] at HR1
      rw [hn1]
      clear hn1
      go_wp2_with (at_builtin; go_loud (refine wpList_append_ri _ rfl _ _ rfl rfl HR1.out rfl HL3.out (by have := HN.out; simp at *; omega) HB1.out.size ?_))
      intro v2 w2 hR2 hg2
      have HR2 := Lib.hid hR2
      have HB2 := Lib.hid (HB1.out.grown hg2 HB1.out.size (fun r hr => (HR1.out.lt r hr).1))
      clear hR2 hg2 HL3
      go_wp2_with fail
      go_ret
      exact ⟨_, rfl, HR2.out, HB2.out⟩

set_option maxHeartbeats 1000000 in
theorem linked_row {a1 a2 b1 b2 : List Nat} {y c d : Nat} (h : LI w v (a1 ++ x :: a2)) (hn : (a1 ++ x :: a2).Nodup) (hl : (a1 ++ x :: a2).length ≤ 20000) (h2 : LI w u (b1 ++ y :: b2)) (hn2 : (b1 ++ y :: b2).Nodup) (hl2 : (b1 ++ y :: b2).length ≤ 20000) :
    Calls Try.prog 44 #[v, u, .int .i64 (x : Int), .int .i64 (y : Int), .int .i64 (c : Int), .int .i64 (d : Int)] w fun e w' => ∃ r, e = .returned r ∧ RI w' w.heap.size r ((x :: a2 ++ a1) ++ c :: ((y :: b2 ++ b1) ++ [d])) ∧ Below w.heap.size w w' := by
  have H := Lib.hid h
  have H2 := Lib.hid h2
  have HU := Lib.hid h2.lt
  have HL : Hid ((a1 ++ x :: a2).length ≤ 20000 ∧ (b1 ++ y :: b2).length ≤ 20000) := Lib.hid ⟨hl, hl2⟩
  have HND := Lib.hid hn
  have HND2 := Lib.hid hn2
  clear h h2 hn hn2 hl hl2
  go_enter Try.func44, Try.ntmps44
  go_wp2_with fail
  refine (begun_row H.out HND.out (by have := HL.out.1; omega)).mono ?_
  rintro e w1 ⟨r1, rfl, hr1, hb1⟩
  have HR1 := Lib.hid hr1.li
  have HB1 := Lib.hid hb1
  have H21 := Lib.hid (H2.out.below hb1)
  clear hr1 hb1 H H2
  go_wp2_with (at_builtin; go_loud (refine wpList_append_many _ rfl _ _ rfl rfl (RI.nil _ w.heap.size) rfl HR1.out (by have := HL.out.1; simp at *; omega) HB1.out.size ?_))
  intro v2 w2 hR2 hb2 hk2
  have HB2 := Lib.hid (HB1.out.trans hb2)
  have H22 := Lib.hid (hk2 _ _ H21.out HU.out)
  clear hb2 hk2 H21 HR1 HB1
  obtain ⟨L2, hL2, HR2⟩ : ∃ L, L = x :: (a2 ++ a1) ∧ Hid (RI w2 w.heap.size v2 L) := ⟨_, by simp, Lib.hid hR2⟩
  have HL2 := Lib.hid hL2
  obtain ⟨s2, k2, rfl, _⟩ := HR2.out.li.shape
  obtain ⟨n2, hn2⟩ : ∃ n, L2.length = n := ⟨_, rfl⟩
  have HE2 := Lib.hid hn2
  rw [hn2] at HR2
  rw [hn2]
  clear hR2 hL2 hn2
  have HN2 : Hid (L2.length ≤ 20000) := Lib.hid (by rw [HL2.out]; have := HL.out.1; simp at *; omega)
  go_wp2_with (at_builtin; go_loud (refine wpList_append_one (c := c) w2 rfl _ _ rfl rfl HR2.out rfl (by have := HN2.out; omega) HB2.out.size ?_))
  intro v3 w3 hR3 hb3 hk3
  have HB3 := Lib.hid (HB2.out.trans hb3)
  have H23 := Lib.hid (hk3 _ _ H22.out HU.out)
  clear hb3 hk3 H22 HR2 HB2
  obtain ⟨L3, hL3, HR3⟩ : ∃ L, L = L2 ++ [c] ∧ Hid (RI w3 w.heap.size v3 L) := ⟨_, by simp, Lib.hid hR3⟩
  have HL3 := Lib.hid hL3
  obtain ⟨s3, k3, rfl, _⟩ := HR3.out.li.shape
  obtain ⟨n3, hn3⟩ : ∃ n, L3.length = n := ⟨_, rfl⟩
  have HE3 := Lib.hid hn3
  rw [hn3] at HR3
  rw [hn3]
  clear hR3 hL3 hn3
  go_wp2_with fail
  refine (begun_row H23.out HND2.out (by have := HL.out.2; omega)).mono ?_
  rintro e w4 ⟨r4, rfl, hr4, hb4⟩
  have HR4 := Lib.hid hr4.li
  have HR34 := Lib.hid (RI.below HR3.out hb4)
  have HB4 := Lib.hid (HB3.out.trans (hb4.mono HB3.out.size))
  clear hr4 hb4 H23 HR3 HB3
  go_wp2_with (at_builtin; go_loud (refine wpList_append_many _ rfl _ _ rfl rfl HR34.out rfl HR4.out (by have h1 := HN2.out; have h2 := HL.out.2; rw [HL3.out]; simp at *; omega) HB4.out.size ?_))
  intro v5 w5 hR5 hb5 _
  have HB5 := Lib.hid (HB4.out.trans hb5)
  clear hb5 HR34 HR4 HB4
  obtain ⟨L5, hL5, HR5⟩ : ∃ L, L = L3 ++ (y :: (b2 ++ b1)) ∧ Hid (RI w5 w.heap.size v5 L) := ⟨_, by simp, Lib.hid hR5⟩
  have HL5 := Lib.hid hL5
  obtain ⟨s5, k5, rfl, _⟩ := HR5.out.li.shape
  obtain ⟨n5, hn5⟩ : ∃ n, L5.length = n := ⟨_, rfl⟩
  have HE5 := Lib.hid hn5
  rw [hn5] at HR5
  rw [hn5]
  clear hR5 hL5 hn5
  go_wp2_with (at_builtin; go_loud (refine wpList_append_one (c := d) w5 rfl _ _ rfl rfl HR5.out rfl (by have h1 := HN2.out; have h2 := HL.out.2; rw [HL5.out, HL3.out]; simp at *; omega) HB5.out.size ?_))
  intro v6 w6 hR6 hb6 _
  have HB6 := Lib.hid (HB5.out.trans hb6)
  have HR6 := Lib.hid hR6
  clear hb6 hR6 HR5 HB5
  go_wp2_with fail
  go_ret
  refine ⟨_, rfl, ?_, HB6.out⟩
  have h := HR6.out
  rw [HL5.out, HL3.out, HL2.out] at h
  simpa using h
end

end Go.Proofs.Ytahabfjngeicmaa

/- The reference's Cut. -/
namespace Go.Proofs.Ytahabfjngeicmaa
open Go.RowKit

set_option maxRecDepth 100000

/-- What Cut has told so far: how many arcs it has seen, what is between them, what isn't. -/
def cutStep (th bk : Nat) (s : Nat × List Nat × List Nat) (y : Nat) : Nat × List Nat × List Nat :=
  if y = th ∨ y = bk then (s.1 + 1, s.2.1, s.2.2) else if s.1 = 1 then (s.1, s.2.1 ++ [y], s.2.2) else (s.1, s.2.1, s.2.2 ++ [y])
def cutOf (th bk : Nat) (l : List Nat) : Nat × List Nat × List Nat := l.foldl (cutStep th bk) (0, [], [])
theorem cutOf_snoc (th bk : Nat) (l : List Nat) (y : Nat) : cutOf th bk (l ++ [y]) = cutStep th bk (cutOf th bk l) y := by unfold cutOf; rw [List.foldl_append]; rfl
theorem cut_plain {th bk : Nat} : ∀ {l : List Nat} {s : Nat} {a b : List Nat}, th ∉ l → bk ∉ l → l.foldl (cutStep th bk) (s, a, b) = if s = 1 then (s, a ++ l, b) else (s, a, b ++ l)
  | [], s, a, b, _, _ => by simp
  | y :: l, s, a, b, h1, h2 => by
    simp only [List.mem_cons, not_or] at h1 h2
    rw [List.foldl_cons]
    have e : ¬ (y = th ∨ y = bk) := by omega
    by_cases hs : s = 1
    · subst hs
      rw [show cutStep th bk (1, a, b) y = (1, a ++ [y], b) by unfold cutStep; rw [if_neg e, if_pos rfl], cut_plain h1.2 h2.2, if_pos rfl, if_pos rfl]
      simp
    · rw [show cutStep th bk (s, a, b) y = (s, a, b ++ [y]) by unfold cutStep; rw [if_neg e, if_neg hs], cut_plain h1.2 h2.2, if_neg hs, if_neg hs]
      simp
theorem cut_is {th bk c d : Nat} {p q r : List Nat} (h : (c = th ∧ d = bk) ∨ (c = bk ∧ d = th)) (hn : (p ++ c :: (q ++ d :: r)).Nodup) : cutOf th bk (p ++ c :: (q ++ d :: r)) = (2, q, p ++ r) := by
  rw [List.nodup_append, List.nodup_cons, List.nodup_append, List.nodup_cons] at hn
  obtain ⟨_, ⟨n1, _, ⟨n2, _⟩, n3⟩, n4⟩ := hn
  have hp : c ∉ p ∧ d ∉ p := ⟨fun h => n4 c h c (by simp) rfl, fun h => n4 d h d (by simp) rfl⟩
  have hq : c ∉ q ∧ d ∉ q := ⟨fun h => n1 (by simp [h]), fun h => n3 d h d (by simp) rfl⟩
  have hr : c ∉ r ∧ d ∉ r := ⟨fun h => n1 (by simp [h]), n2⟩
  have k : ∀ l : List Nat, c ∉ l ∧ d ∉ l → th ∉ l ∧ bk ∉ l := fun l hl => by
    rcases h with ⟨rfl, rfl⟩ | ⟨rfl, rfl⟩
    · exact hl
    · exact ⟨hl.2, hl.1⟩
  have hc : c = th ∨ c = bk := h.elim (fun h => .inl h.1) fun h => .inr h.1
  have hd : d = th ∨ d = bk := h.elim (fun h => .inr h.2) fun h => .inl h.2
  unfold cutOf
  rw [List.foldl_append, cut_plain (k p hp).1 (k p hp).2, if_neg (by omega), List.foldl_cons]
  rw [show cutStep th bk (0, [], [] ++ p) c = (1, [], p) by unfold cutStep; rw [if_pos hc]; simp]
  rw [List.foldl_append, cut_plain (k q hq).1 (k q hq).2, if_pos rfl, List.foldl_cons]
  rw [show cutStep th bk (1, [] ++ q, p) d = (2, q, p) by unfold cutStep; rw [if_pos hd]; simp]
  rw [cut_plain (k r hr).1 (k r hr).2, if_neg (by omega)]

/-- append of one number onto a row of one's own, beside another one. -/
theorem wpList_append_beside (w : World) {ops : Array Oper} {rest : List Oper} {o : Oper} {a : Act} {Q : Exit → Act → World → Prop} (hgd : o.guard = none) (s x : Operand)
    (ho : o.op = .call { callee := .builtin .append, args := #[s, x], argTypes := #[53, 53] })
    {base c : Nat} {v v2 : Value} {l l2 : List Nat} (hs : a.eval s = v) (h : RI w base v l) (hx : a.eval x = .slice (some ⟨w.heap.size, 0, none⟩) 1 1) (hl : l.length ≤ 90000) (hb : base ≤ w.heap.size) (h2 : RI w base v2 l2) (hne : ∀ b, v.ownBlock = some b → v2.ownBlock ≠ some b)
    (hK : ∀ v' w', RI w' base v' (l ++ [c]) → RI w' base v2 l2 → (∀ b, v'.ownBlock = some b → v2.ownBlock ≠ some b) → Below base w w' → wpList Try.prog ops Q rest (a.put o.dst v') w') : wpList Try.prog ops Q (o :: rest) a (w.alloc (.cells #[.int .i64 (c : Int)] 3)) := by
  obtain ⟨i0, hi0, hz0, hz1, hz2⟩ := info_parts info_i
  have h' : RI (w.alloc (.cells #[.int .i64 (c : Int)] 3)) base v l := World.ownsRow.alloc h _
  have h2' : RI (w.alloc (.cells #[.int .i64 (c : Int)] 3)) base v2 l2 := World.ownsRow.alloc h2 _
  refine wpList_append_own_at _ hgd s x 53 ho base 3 i0 _ 1 8 Try.underlying53 hi0 hz0 hz1 hz2 rfl (by omega) v l.length _ hs h' ⟨w.heap.size, 0, none⟩ 1 1 [.int .i64 (c : Int)] hx (by simp) ?_ ?_ (by simp only [maxLen]; omega) (by omega) (Nat.le_trans hb (by simp)) ?_
  · intro j u hj
    cases j with
    | zero =>
      have e : u = .int .i64 (c : Int) := by simpa using hj.symm
      subst e
      exact cell_new1 w _ _
    | succ j => simp at hj
  · intro u hu
    have e : u = .int .i64 (c : Int) := by simpa using hu
    subst e; rfl
  · intro v' w' a1 a2 _ a4
    have hr2 : RI w' base v2 l2 := by
      refine ⟨h2'.1, ?_⟩
      rcases h2'.2 with hn | ⟨g, cap, cur, rfl, hg, hgg, rest⟩
      · exact .inl hn
      · refine .inr ⟨g, cap, cur, rfl, hg, (a2.block g (h2'.lt g rfl).2 fun e => hne g e.symm rfl).trans hgg, rest⟩
    refine hK v' w' ?_ hr2 ?_ (((Below.refl base w).alloc hb _).grown a2 (Nat.le_trans hb (by simp)) (fun r hr => (h'.lt r hr).1))
    · unfold RI; rw [List.length_append, List.map_append]; exact a1
    · intro b hb' e
      rcases a4 with a4 | a4
      · exact hne b (a4 ▸ hb') e
      · rw [a4] at hb'
        have h1 := (h2.lt b e).2
        have e2 : (w.alloc (.cells #[.int .i64 (c : Int)] 3)).heap.size = b := by injection hb'
        rw [World.size_alloc] at e2
        omega
end Go.Proofs.Ytahabfjngeicmaa

/- The reference's Cut, walked. -/
namespace Go.Proofs.Ytahabfjngeicmaa
open Go.RowKit
set_option maxRecDepth 100000
section
variable {w : World} {v u : Value} {l a b : List Nat} {x th bk : Nat}
theorem cutOf_len (th bk : Nat) (l : List Nat) : (cutOf th bk l).1 ≤ l.length ∧ (cutOf th bk l).2.1.length ≤ l.length ∧ (cutOf th bk l).2.2.length ≤ l.length := by
  suffices h : ∀ (l : List Nat) (s : Nat × List Nat × List Nat), (l.foldl (cutStep th bk) s).1 ≤ s.1 + l.length ∧ (l.foldl (cutStep th bk) s).2.1.length ≤ s.2.1.length + l.length ∧ (l.foldl (cutStep th bk) s).2.2.length ≤ s.2.2.length + l.length by
    have := h l (0, [], [])
    simpa [cutOf] using this
  intro l
  induction l with
  | nil => intro s; simp
  | cons y l ih =>
    intro s
    have h1 := ih (cutStep th bk s y)
    have h2 : (cutStep th bk s y).1 ≤ s.1 + 1 ∧ (cutStep th bk s y).2.1.length ≤ s.2.1.length + 1 ∧ (cutStep th bk s y).2.2.length ≤ s.2.2.length + 1 := by
      unfold cutStep; split
      · simp
      · split <;> simp
    rw [List.foldl_cons, List.length_cons]
    omega
def CuRel (w0 : World) (l : List Nat) (th bk : Nat) (i o s j : Value) (W : World) : Prop :=
  Below w0.heap.size w0 W ∧ ∃ k s0 A B, k ≤ l.length ∧ j = .int .i64 ((k : Nat) : Int) ∧ cutOf th bk (l.take k) = (s0, A, B) ∧ s = .int .i64 ((s0 : Nat) : Int) ∧
    RI W w0.heap.size i A ∧ RI W w0.heap.size o B ∧ (∀ b, i.ownBlock = some b → o.ownBlock ≠ some b)
set_option maxHeartbeats 1000000 in
theorem cut_row (h : LI w v l) (hl : l.length ≤ 50000) :
    Calls Try.prog 46 #[v, .int .i64 (th : Int), .int .i64 (bk : Int)] w fun e w' => ∃ r s, e = .returned (.tuple #[r, s]) ∧ RI w' w.heap.size r (cutOf th bk l).2.1 ∧ RI w' w.heap.size s (cutOf th bk l).2.2 ∧ Below w.heap.size w w' := by
  obtain ⟨a0, c0, rfl, _⟩ := h.shape
  have H := Lib.hid h
  obtain ⟨n, hn⟩ : ∃ n, l.length = n := ⟨_, rfl⟩
  have HN := Lib.hid hn
  rw [hn] at H hl
  rw [hn]
  have nI : (n : Int) ≤ 50000 := by omega
  have HRel : Hid (CuRel w l th bk (.slice none 0 0) (.slice none 0 0) (.int .i64 0) (.int .i64 0) w) := Lib.hid ⟨Below.refl _ _, 0, 0, [], [], Nat.zero_le _, rfl, rfl, rfl, RI.nil _ _, RI.nil _ _, fun b hb => by cases hb⟩
  clear h hn
  go_enter Try.func46, Try.ntmps46
  go_wp2_with fail
  go_loopw [8, 9, 10, 11] (fun i o s j wr => CuRel w l th bk i o s j wr) (fun _ _ _ j _ => n - (intOf j).toNat)
  case atStart => exact HRel.out
  case round =>
    clear HRel
    obtain ⟨hb, k, s0, A, B, hk, rfl, hc, rfl, hi, ho, hne⟩ := hrel
    have HB := Lib.hid hb
    have HH := Lib.hid (H.out.below hb)
    have HI := Lib.hid hi
    have HO := Lib.hid ho
    have HNE := Lib.hid hne
    have HC := Lib.hid hc
    have hlen : s0 ≤ k ∧ A.length ≤ k ∧ B.length ≤ k := by
      have h1 := cutOf_len th bk (l.take k)
      rw [hc] at h1
      simp only [List.length_take] at h1
      omega
    rw [HN.out] at hk
    have sI : (s0 : Int) ≤ 50000 := by omega
    have HLEN := Lib.hid hlen
    clear hb hi ho hne hc hlen
    by_cases hkn : k < n
    · obtain ⟨y, hy⟩ : ∃ y, l[k]? = some y := ⟨_, List.getElem?_eq_getElem (by have := HN.out; omega)⟩
      obtain ⟨b1, o1, rfl, c1⟩ := HH.out.at hy
      have HT : Hid (l.take (k + 1) = l.take k ++ [y]) := Lib.hid (by rw [List.take_add_one, hy]; rfl)
      have HST : Hid (cutOf th bk (l.take (k + 1)) = cutStep th bk (s0, A, B) y) := Lib.hid (by rw [HT.out, cutOf_snoc, HC.out])
      have kI : (k : Int) < (n : Int) := by omega
      have k0 : (0 : Int) ≤ (k : Int) := by omega
      clear hy
      have done : ∀ (hh : y = th ∨ y = bk), CuRel w l th bk u8 u9 (.int .i64 ((s0 + 1 : Nat) : Int)) (.int .i64 ((k + 1 : Nat) : Int)) wr := fun hh => ⟨HB.out, k + 1, s0 + 1, A, B, by have := HN.out; omega, rfl, by rw [HST.out]; unfold cutStep; rw [if_pos hh], rfl, HI.out, HO.out, HNE.out⟩
      have HD := Lib.hid done
      clear done
      by_cases e : y = th
      · subst e
        have eb : ((y : Int) == (y : Int)) = true := beq_self_eq_true _
        go_wp2_with fail
        go_roundw
        case rel => exact HD.out (.inl rfl)
        case measure => simp [intOf]; omega
      · by_cases e2 : y = bk
        · subst e2
          have eb : ((y : Int) == (y : Int)) = true := beq_self_eq_true _
          have eb1 : ((y : Int) == (th : Int)) = false := beq_eq_false_iff_ne.2 (by omega)
          clear e
          go_wp2_with fail
          go_roundw
          case rel => exact HD.out (.inr rfl)
          case measure => simp [intOf]; omega
        · have eb1 : ((y : Int) == (th : Int)) = false := beq_eq_false_iff_ne.2 (by omega)
          have eb2 : ((y : Int) == (bk : Int)) = false := beq_eq_false_iff_ne.2 (by omega)
          have HE : Hid (¬ (y = th ∨ y = bk)) := Lib.hid (by omega)
          clear e e2 HD
          obtain ⟨ai, ki, rfl, _⟩ := HI.out.li.shape
          obtain ⟨ao, ko, rfl, _⟩ := HO.out.li.shape
          by_cases hs : s0 = 1
          · subst hs
            obtain ⟨na, hna⟩ : ∃ n, A.length = n := ⟨_, rfl⟩
            have HNA := Lib.hid hna
            rw [hna] at HI HNE
            rw [hna]
            clear hna
            have eb : ((((1 : Nat) : Int)) == (1 : Int)) = true := rfl
            go_wp2_with (at_builtin; refine wpList_append_beside (c := y) (v := .slice ai na ki) (v2 := .slice ao B.length ko) wr rfl _ _ rfl rfl HI.out rfl (by have := HLEN.out; omega) HB.out.size HO.out HNE.out ?_)
            intro v' w' hR hO hN hb
            have HB2 := Lib.hid (HB.out.trans hb)
            have HR := Lib.hid hR
            have HO2 := Lib.hid hO
            have HNE2 := Lib.hid hN
            clear hR hO hN hb HI HO HNE HB c1
            go_wp2_with fail
            go_roundw
            case rel => exact ⟨HB2.out, k + 1, 1, A ++ [y], B, by have := HN.out; omega, by simp, by rw [HST.out]; unfold cutStep; rw [if_neg HE.out, if_pos rfl], rfl, HR.out, HO2.out, HNE2.out⟩
            case measure => simp [intOf]; omega
          · have eb : ((s0 : Int) == (1 : Int)) = false := beq_eq_false_iff_ne.2 (by omega)
            have HS : Hid (¬ s0 = 1) := Lib.hid hs
            clear hs
            obtain ⟨no, hno⟩ : ∃ n, B.length = n := ⟨_, rfl⟩
            have HNO := Lib.hid hno
            rw [hno] at HO HNE
            rw [hno]
            clear hno
            go_wp2_with (at_builtin; refine wpList_append_beside (c := y) (v := .slice ao no ko) (v2 := .slice ai A.length ki) wr rfl _ _ rfl rfl HO.out rfl (by have := HLEN.out; omega) HB.out.size HI.out (fun b h1 h2 => HNE.out b h2 h1) ?_)
            intro v' w' hR hO hN hb
            have HB2 := Lib.hid (HB.out.trans hb)
            have HR := Lib.hid hR
            have HO2 := Lib.hid hO
            have HNE2 := Lib.hid hN
            clear hR hO hN hb HI HO HNE HB c1
            go_wp2_with fail
            go_roundw
            case rel => exact ⟨HB2.out, k + 1, s0, A, B ++ [y], by have := HN.out; omega, by simp, by rw [HST.out]; unfold cutStep; rw [if_neg HE.out, if_neg HS.out], rfl, HO2.out, HR.out, fun b h1 h2 => HNE2.out b h2 h1⟩
            case measure => simp [intOf]; omega
    · have ek : k = n := by omega
      subst ek
      have kI : ¬ (k : Int) < (k : Int) := by omega
      clear hk hkn
      go_wp2_with fail
      have hc := HC.out
      rw [← HN.out, List.take_length] at hc
      go_ret2
      exact ⟨_, _, rfl, by rw [hc]; exact HI.out, by rw [hc]; exact HO.out, HB.out⟩
end
end Go.Proofs.Ytahabfjngeicmaa

/- A graph in memory; what Joined has seen, plainly. -/
namespace Go.Proofs.Ytahabfjngeicmaa
open Go.RowKit

set_option maxRecDepth 100000

/-- A slot's ends, as they stand in memory. -/
def end1 : Option (Nat × Nat) → Int
  | some (a, _) => (a : Int)
  | none => -1
def end2 : Option (Nat × Nat) → Int
  | some (_, b) => (b : Int)
  | none => -1
/-- The edges that a graph has. -/
def Lnk (gr : List (Option (Nat × Nat))) (E : List (Nat × Nat × Nat)) : Prop := ∀ s a b, (s, a, b) ∈ E ↔ gr[s]? = some (some (a, b))
/-- A node's neighbours by the first slots are in a list. -/
def Clo (gr : List (Option (Nat × Nat))) (S : List Nat) (c m : Nat) : Prop := ∀ s a b, s < m → gr[s]? = some (some (a, b)) → (a = c → b ∈ S) ∧ (b = c → a ∈ S)
structure Sn (gr : List (Option (Nat × Nat))) (E : List (Nat × Nat × Nat)) (V x : Nat) (S : List Nat) (i : Nat) : Prop where
  nd : S.Nodup
  lt : ∀ y ∈ S, y < V
  way : ∀ y ∈ S, Way E x y
  has : x ∈ S
  cl : ∀ j c, j < i → S[j]? = some c → Clo gr S c gr.length

section
variable {gr : List (Option (Nat × Nat))} {E : List (Nat × Nat × Nat)} {V x i c m : Nat} {S T : List Nat}
theorem Clo.mono (h : Clo gr S c m) (hs : ∀ y ∈ S, y ∈ T) : Clo gr T c m := fun s a b hm hg => ⟨fun e => hs _ ((h s a b hm hg).1 e), fun e => hs _ ((h s a b hm hg).2 e)⟩
theorem seen_len : ∀ (V : Nat) (S : List Nat), S.Nodup → (∀ y ∈ S, y < V) → S.length ≤ V
  | 0, S, _, hl => by
    cases S with
    | nil => exact Nat.le_refl _
    | cons y S => exact absurd (hl y (by simp)) (Nat.not_lt_zero _)
  | V + 1, S, hn, hl => by
    have h1 := seen_len V (S.erase V) (hn.erase V) fun y hy => by
      have h2 := hl y (List.mem_of_mem_erase hy)
      have h3 : y ≠ V := ((List.Nodup.mem_erase_iff hn).1 hy).1
      omega
    have h4 := List.length_erase (l := S) (a := V)
    split at h4 <;> omega
theorem Sn.len (h : Sn gr E V x S i) : S.length ≤ V := seen_len V S h.nd h.lt
theorem Sn.one (hx : x < V) : Sn gr E V x [x] 0 := ⟨by simp, fun y hy => by simp at hy; omega, fun y hy => by simp at hy; subst hy; exact .refl _, by simp, fun j c hj => absurd hj (Nat.not_lt_zero _)⟩
theorem Sn.add {y : Nat} (h : Sn gr E V x S i) (hi : i ≤ S.length) (hy : y ∉ S) (hv : y < V) (hw : Way E x y) : Sn gr E V x (S ++ [y]) i where
  nd := by
    rw [List.nodup_append]
    exact ⟨h.nd, by simp, fun a ha b hb e => by simp at hb; subst hb; subst e; exact hy ha⟩
  lt := fun z hz => by rcases List.mem_append.1 hz with hz | hz; exact h.lt z hz; simp at hz; omega
  way := fun z hz => by rcases List.mem_append.1 hz with hz | hz; exact h.way z hz; simp at hz; subst hz; exact hw
  has := List.mem_append_left _ h.has
  cl := fun j c hj hc => by
    rw [List.getElem?_append_left (by omega)] at hc
    exact (h.cl j c hj hc).mono fun y hy => List.mem_append_left _ hy
theorem Sn.next (h : Sn gr E V x S i) (hc : S[i]? = some c) (hcl : Clo gr S c gr.length) : Sn gr E V x S (i + 1) :=
  ⟨h.nd, h.lt, h.way, h.has, fun j d hj hd => by
    by_cases e : j = i
    · subst e; rw [hc] at hd; injection hd with hd; subst hd; exact hcl
    · exact h.cl j d (by omega) hd⟩
/-- Behind all nodes just what is joined has been seen. -/
theorem Sn.done (h : Sn gr E V x S S.length) (hE : Lnk gr E) (y : Nat) : y ∈ S ↔ Way E x y := by
  refine ⟨h.way y, fun hw => ?_⟩
  have cl : ∀ c ∈ S, Clo gr S c gr.length := fun c hc => by
    obtain ⟨j, hj, e⟩ := List.getElem_of_mem hc
    exact h.cl j c hj (by rw [List.getElem?_eq_getElem hj, e])
  have key : ∀ {x y : Nat}, Way E x y → x ∈ S → y ∈ S := by
    intro x y hw
    induction hw with
    | refl => exact id
    | fore _ he ih =>
      intro hx
      have hg := (hE _ _ _).1 he
      exact (cl _ (ih hx) _ _ _ (List.getElem?_eq_some_iff.1 hg).1 hg).1 rfl
    | back _ he ih =>
      intro hx
      have hg := (hE _ _ _).1 he
      exact (cl _ (ih hx) _ _ _ (List.getElem?_eq_some_iff.1 hg).1 hg).2 rfl
  exact key hw h.has
theorem Clo.zero : Clo gr S c 0 := fun _ _ _ h => absurd h (Nat.not_lt_zero _)
theorem Clo.none (h : Clo gr S c m) (hg : gr[m]? = some none) : Clo gr S c (m + 1) := fun s a b hs he => by
  by_cases e : s = m
  · subst e; rw [hg] at he; cases he
  · exact h s a b (by omega) he
theorem Clo.some {a b : Nat} (h : Clo gr S c m) (hg : gr[m]? = some (some (a, b))) (h1 : a = c → b ∈ S) (h2 : b = c → a ∈ S) : Clo gr S c (m + 1) := fun s a' b' hs he => by
  by_cases e : s = m
  · subst e; rw [hg] at he; injection he with he; injection he with he; injection he with e1 e2; subst e1 e2; exact ⟨h1, h2⟩
  · exact h s a' b' (by omega) he
end

/-- A graph in memory. -/
def GI (w : World) (v : Value) (gr : List (Option (Nat × Nat))) : Prop :=
  ∃ b off cap zs, v = .slice (some ⟨b, off, none⟩) gr.length cap ∧ Blk w b 36 zs ∧ ∀ k e, gr[k]? = some e → zs[off + k * 2]? = some (.int .i64 (end1 e)) ∧ zs[off + k * 2 + 1]? = some (.int .i64 (end2 e))
theorem GI.below {w w' : World} {v : Value} {gr : List (Option (Nat × Nat))} (h : GI w v gr) (hb : Below w.heap.size w w') : GI w' v gr := by
  obtain ⟨b, off, cap, zs, rfl, hz, h1⟩ := h
  exact ⟨b, off, cap, zs, rfl, (hb.block b hz.lt).trans hz, h1⟩
end Go.Proofs.Ytahabfjngeicmaa

/- A level's rows, plainly: all go around trees; what Begin, Link and Cut make of them. -/
namespace Go.Proofs.Ytahabfjngeicmaa
open Go.RowKit

/-- All of a level: its rows go around trees of the graph's edges; each is a tree of the forest; arcs that aren't linked are alone. -/
structure Lv (V S : Int) (L : Nat) (ts : List Tp) (rows : List (List Nat)) (gr : List (Option (Nat × Nat))) : Prop where
  tour : ∃ P : List (List Nat × List (Nat × Nat × Nat)), (P.map Prod.fst).Perm rows ∧ (∀ p ∈ P, Tour (Xn V L) (An V S L) p.1 p.2) ∧ Lnk gr (P.flatMap Prod.snd)
  has : ∀ r ∈ rows, ∃ t ∈ ts, t.row = r
  nd : rows.flatten.Nodup
  cov : ∀ u : Nat, (u : Int) < V → ∃ r ∈ rows, Xn V L u ∈ r
  loose : ∀ s : Nat, (s : Int) < S → gr[s]? = some none → ∀ d, d < 2 → ∃ t ∈ ts, t.row = [An V S L s d]
  len : gr.length = S.toNat

section
variable {V S T : Int} {L L' s u v i j k x y : Nat} {ts ts' : List Tp} {rows rows' R : List (List Nat)} {gr gr' : List (Option (Nat × Nat))} {r r' : List Nat} {g g' : Mg9} {mk mk' : Nat → Nat} {t z : Tp}
theorem idx_uniq (h : rows.flatten.Nodup) (hi : rows[i]? = some r) (hj : rows[j]? = some r') (h1 : x ∈ r) (h2 : x ∈ r') : i = j := by
  by_cases e : i = j
  · exact e
  · exfalso
    have hp := (wo_perm2 e (Nat.zero_le _) (Nat.zero_le _) hi hj).flatten.nodup_iff.1 h
    rw [List.flatten_cons, List.flatten_cons, List.nodup_append] at hp
    exact hp.2.2 x h1 x (List.mem_append_left _ h2) rfl
theorem wo_set {α : Type} (i : Nat) (x : α) : ∀ (j : Nat) (l : List α), wo (i + j) (i + j) j (l.set i x) = wo (i + j) (i + j) j l := by
  induction i with
  | zero =>
    intro j l
    cases l with
    | nil => rfl
    | cons y l => simp [wo]
  | succ i ih =>
    intro j l
    cases l with
    | nil => rfl
    | cons y l =>
      have := ih (j + 1) l
      simp only [List.set_cons_succ, wo]
      rw [show i + 1 + j = i + (j + 1) by omega, this]
theorem set_perm {α : Type} {l : List α} {x y : α} (h : l[i]? = some y) : (l.set i x).Perm (x :: wo i i 0 l) := by
  have hl := (List.getElem?_eq_some_iff.1 h).1
  have h1 := wo_perm1 (i := i) (x := x) (j := 0) (l := l.set i x) (Nat.zero_le _) (by simp [hl])
  have h2 := wo_set i x 0 l
  rw [Nat.add_zero] at h2
  rwa [h2] at h1
theorem pick {α β : Type} {f : α → β} {P : List α} {x : β} {R : List β} (h : (P.map f).Perm (x :: R)) : ∃ p P', f p = x ∧ P.Perm (p :: P') ∧ (P'.map f).Perm R := by
  obtain ⟨p, hp, e⟩ := List.mem_map.1 (h.mem_iff.2 (List.mem_cons_self ..))
  obtain ⟨a, b, rfl⟩ := List.append_of_mem hp
  refine ⟨p, a ++ b, e, List.perm_middle, ?_⟩
  have h2 : (List.map f (a ++ p :: b)).Perm (x :: List.map f (a ++ b)) := by
    rw [← e, ← List.map_cons]
    exact List.perm_middle.map f
  exact (List.perm_cons x).1 (h2.symm.trans h)
theorem Lnk.perm {E F : List (Nat × Nat × Nat)} (h : Lnk gr E) (hp : ∀ e, e ∈ E ↔ e ∈ F) : Lnk gr F := fun s a b => (hp _).symm.trans (h s a b)
/-- The order of a level's rows is nothing. -/
theorem Lv.perm (h : Lv V S L ts rows gr) (hp : rows.Perm rows') : Lv V S L ts rows' gr := by
  obtain ⟨P, a, b, c⟩ := h.tour
  exact ⟨⟨P, a.trans hp, b, c⟩, fun r hr => h.has r (hp.mem_iff.2 hr), hp.flatten.nodup_iff.1 h.nd, fun u hu => by obtain ⟨r, hr, e⟩ := h.cov u hu; exact ⟨r, hp.mem_iff.1 hr, e⟩, h.loose, h.len⟩
theorem Lv.edges (h : Lv V S L ts rows gr) (hr : r ∈ rows) : ∃ E, Tour (Xn V L) (An V S L) r E ∧ ∀ s a b, (s, a, b) ∈ E → gr[s]? = some (some (a, b)) := by
  obtain ⟨P, hp, ht, hk⟩ := h.tour
  obtain ⟨p, hp1, rfl⟩ := List.mem_map.1 (hp.mem_iff.2 hr)
  exact ⟨p.2, ht p hp1, fun s a b hm => (hk s a b).1 (List.mem_flatMap.2 ⟨p, hp1, hm⟩)⟩
theorem Lv.edge (h : Lv V S L ts rows gr) (hs : gr[s]? = some (some (u, v))) : ∃ r E, r ∈ rows ∧ Tour (Xn V L) (An V S L) r E ∧ (s, u, v) ∈ E := by
  obtain ⟨P, hp, ht, hk⟩ := h.tour
  obtain ⟨p, hp1, hm⟩ := List.mem_flatMap.1 ((hk s u v).2 hs)
  exact ⟨p.1, p.2, hp.mem_iff.1 (List.mem_map_of_mem hp1), ht p hp1, hm⟩
theorem Lv.node_le (h : Lv V S L ts rows gr) (hF : FI V S g mk ts) (hr : r ∈ rows) (hy : y ∈ r) : y ≠ 0 ∧ y ≤ nN V S := by
  obtain ⟨t, ht, e⟩ := h.has r hr
  exact hF.nodes ht y (by rw [e]; exact hy)
theorem Lv.lvl (h : Lv V S L ts rows gr) (hR : Rt V S T) (hL : (L : Int) < lv V) (hF : FI V S g mk ts) (hr : r ∈ rows) (hy : y ∈ r) : lvN V y = (L : Int) := by
  have hle := (h.node_le hF hr hy).2
  obtain ⟨E, hT, hE⟩ := h.edges hr
  rcases hT.node hy with ⟨u, rfl⟩ | ⟨s, a, b, _, e⟩
  · have hu := Xn_node hR hle
    rw [Xn_in hu]; exact (vxI_in hR hL hu).2.2.2.1
  · rcases e with rfl | rfl
    · have hs := An_node hR hle
      rw [An_in hs.1 hs.2]; exact (arI_in hR hL hs.1 hs.2).2.2.2.1
    · have hs := An_node hR hle
      rw [An_in hs.1 hs.2]; exact (arI_in hR hL hs.1 hs.2).2.2.2.1
theorem Lv.vert (h : Lv V S L ts rows gr) (hR : Rt V S T) (hF : FI V S g mk ts) (hr : r ∈ rows) : ∃ u : Nat, (u : Int) < V ∧ Xn V L u ∈ r := by
  obtain ⟨E, hT, _⟩ := h.edges hr
  obtain ⟨u, hu⟩ := hT.has
  exact ⟨u, Xn_node hR (h.node_le hF hr hu).2, hu⟩
theorem Lv.no_arc (h : Lv V S L ts rows gr) (hR : Rt V S T) (hL : (L : Int) < lv V) (hF : FI V S g mk ts) (hs : (s : Int) < S) (hg : gr[s]? = some none) {d : Nat} (hd : d < 2) (hr : r ∈ rows) : An V S L s d ∉ r := fun hm => by
  obtain ⟨t, ht, e⟩ := h.has r hr
  obtain ⟨c, hc, e2⟩ := h.loose s hs hg d hd
  have := hF.uniq (x := An V S L s d) ht hc (by rw [e]; exact hm) (by rw [e2]; simp)
  subst this
  obtain ⟨u, _, hx⟩ := h.vert hR hF hr
  rw [← e, e2] at hx
  exact An_Xn hR hL s d u (List.mem_singleton.1 hx).symm
theorem Lv.ends (h : Lv V S L ts rows gr) (hR : Rt V S T) (hF : FI V S g mk ts) (hs : gr[s]? = some (some (u, v))) : (u : Int) < V ∧ (v : Int) < V ∧ (s : Int) < S := by
  obtain ⟨r, E, hr, hT, hm⟩ := h.edge hs
  obtain ⟨a, b, c, d⟩ := hT.mem hm
  exact ⟨Xn_node hR (h.node_le hF hr c).2, Xn_node hR (h.node_le hF hr d).2, (An_node hR (h.node_le hF hr a).2).1⟩
/-- What is done at another level leaves a level. -/
theorem Lv.other (h : Lv V S L ts rows gr) (hR : Rt V S T) (hL : (L : Int) < lv V) (hF : FI V S g mk ts) (hk : ∀ z ∈ ts, (∃ y ∈ z.row, lvN V y = (L : Int)) → z ∈ ts') : Lv V S L ts' rows gr := by
  refine ⟨h.tour, fun r hr => ?_, h.nd, h.cov, fun s hs hg d hd => ?_, h.len⟩
  · obtain ⟨t, ht, e⟩ := h.has r hr
    obtain ⟨u, _, hu⟩ := h.vert hR hF hr
    exact ⟨t, hk t ht ⟨_, by rw [e]; exact hu, h.lvl hR hL hF hr hu⟩, e⟩
  · obtain ⟨t, ht, e⟩ := h.loose s hs hg d hd
    refine ⟨t, hk t ht ⟨An V S L s d, by rw [e]; simp, ?_⟩, e⟩
    rw [An_in hs hd]; exact (arI_in hR hL hs hd).2.2.2.1
/-- A tree all of whose nodes are of one level is none of another one's. -/
theorem lvl_ne (hL : L ≠ L') (ht : ∀ y ∈ t.row, lvN V y = (L : Int)) (hz : ∃ y ∈ z.row, lvN V y = (L' : Int)) : z ≠ t := fun e => by
  obtain ⟨y, hy, e2⟩ := hz
  have := ht y (e ▸ hy)
  omega
/-- A loose arc's tree is none of the rows'. -/
theorem Lv.loose_ne (h : Lv V S L ts rows gr) (hR : Rt V S T) (hL : (L : Int) < lv V) (hF : FI V S g mk ts) (hr : r ∈ rows) (htr : t.row = r) {d : Nat} (hz : z.row = [An V S L s d]) : z ≠ t := fun e => by
  obtain ⟨u, _, hx⟩ := h.vert hR hF hr
  rw [← htr, ← e, hz] at hx
  exact An_Xn hR hL s d u (List.mem_singleton.1 hx).symm
/-- Of two rows the trees aren't one. -/
theorem Lv.rest_ne (h : Lv V S L ts rows gr) (hR : Rt V S T) (hF : FI V S g mk ts) (hp : rows.Perm (r :: R)) (hr' : r' ∈ R) (htr : t.row = r) (hz : z.row = r') : z ≠ t := fun e => by
  have hm : r' ∈ rows := hp.mem_iff.2 (List.mem_cons_of_mem _ hr')
  obtain ⟨u, _, hx⟩ := h.vert hR hF hm
  have hn := hp.flatten.nodup_iff.1 h.nd
  rw [List.flatten_cons, List.nodup_append] at hn
  refine hn.2.2 _ ?_ _ (List.mem_flatten.2 ⟨r', hr', hx⟩) rfl
  rw [← htr, ← e, hz]; exact hx
/-- A row is begun elsewhere. -/
theorem Lv.begun {a b : List Nat} {t' : Tp} (h : Lv V S L ts rows gr) (hR : Rt V S T) (hL : (L : Int) < lv V) (hF : FI V S g mk ts) (hp : rows.Perm ((a ++ x :: b) :: R)) (htr : t.row = a ++ x :: b) (ht' : t' ∈ ts') (hr' : t'.row = x :: (b ++ a)) (hk : ∀ z ∈ ts, z ≠ t → z ∈ ts') : Lv V S L ts' ((x :: (b ++ a)) :: R) gr := by
  have hpr : (x :: (b ++ a)).Perm (a ++ x :: b) := (List.perm_append_comm (l₁ := x :: b) (l₂ := a))
  have h1 := h.perm hp
  have hpf : ((x :: (b ++ a)) :: R).flatten.Perm rows.flatten := by
    refine List.Perm.trans ?_ hp.flatten.symm
    rw [List.flatten_cons, List.flatten_cons]
    exact hpr.append_right _
  obtain ⟨P, p1, p2, p3⟩ := h.tour
  obtain ⟨p, P', e, q1, q2⟩ := pick (p1.trans hp)
  refine ⟨⟨(x :: (b ++ a), p.2) :: P', by simpa using q2, fun p' hp' => ?_, p3.perm fun e => ?_⟩, fun r hr => ?_, hpf.nodup_iff.2 h.nd, fun u hu => ?_, fun s hs hg d hd => ?_, h.len⟩
  · rcases List.mem_cons.1 hp' with rfl | hp'
    · have := p2 p (q1.mem_iff.2 (List.mem_cons_self ..))
      rw [e] at this
      exact this.rot
    · exact p2 p' (q1.mem_iff.2 (List.mem_cons_of_mem _ hp'))
  · rw [(q1.flatMap_right Prod.snd).mem_iff, List.flatMap_cons, List.flatMap_cons]
  · rcases List.mem_cons.1 hr with rfl | hr
    · exact ⟨t', ht', hr'⟩
    · obtain ⟨z, hz, e2⟩ := h1.has r (List.mem_cons_of_mem _ hr)
      exact ⟨z, hk z hz (h.rest_ne hR hF hp hr htr e2), e2⟩
  · obtain ⟨r, hr, hx⟩ := h1.cov u hu
    rcases List.mem_cons.1 hr with rfl | hr
    · exact ⟨_, List.mem_cons_self .., hpr.mem_iff.2 hx⟩
    · exact ⟨r, List.mem_cons_of_mem _ hr, hx⟩
  · obtain ⟨z, hz, e2⟩ := h.loose s hs hg d hd
    exact ⟨z, hk z hz (h1.loose_ne hR hL hF (List.mem_cons_self ..) htr e2), e2⟩
end

end Go.Proofs.Ytahabfjngeicmaa

/- A level's rows, plainly: linked, cut; at the beginning. -/
namespace Go.Proofs.Ytahabfjngeicmaa
open Go.RowKit

section
variable {V S T : Int} {L L' s u v i j k x y : Nat} {ts ts' : List Tp} {rows rows' R : List (List Nat)} {gr gr' : List (Option (Nat × Nat))} {r r' : List Nat} {g g' : Mg9} {mk mk' : Nat → Nat} {t t2 c0 c1 z : Tp}
/-- Two rows that are linked. -/
def lkRow (x y e0 e1 : Nat) (a1 a2 b1 b2 : List Nat) : List Nat := (x :: (a2 ++ a1)) ++ e0 :: ((y :: (b2 ++ b1)) ++ [e1])
theorem Lv.link {a1 a2 b1 b2 : List Nat} {t' : Tp} (h : Lv V S L ts rows gr) (hR : Rt V S T) (hL : (L : Int) < lv V) (hF : FI V S g mk ts) (hp : rows.Perm ((a1 ++ Xn V L u :: a2) :: (b1 ++ Xn V L v :: b2) :: R)) (hs : (s : Int) < S) (hg : gr[s]? = some none)
    (htr : t.row = a1 ++ Xn V L u :: a2) (ht2 : t2.row = b1 ++ Xn V L v :: b2) (hc0 : c0.row = [An V S L s 0]) (hc1 : c1.row = [An V S L s 1]) (ht' : t' ∈ ts') (hr' : t'.row = lkRow (Xn V L u) (Xn V L v) (An V S L s 0) (An V S L s 1) a1 a2 b1 b2) (hk : ∀ z ∈ ts, z ≠ t → z ≠ t2 → z ≠ c0 → z ≠ c1 → z ∈ ts') :
    Lv V S L ts' (lkRow (Xn V L u) (Xn V L v) (An V S L s 0) (An V S L s 1) a1 a2 b1 b2 :: R) (gr.set s (some (u, v))) := by
  have hsl := (List.getElem?_eq_some_iff.1 hg).1
  have hp2 : rows.Perm ((b1 ++ Xn V L v :: b2) :: (a1 ++ Xn V L u :: a2) :: R) := hp.trans (List.Perm.swap _ _ _)
  have h1 := h.perm hp
  have m1 : (a1 ++ Xn V L u :: a2) ∈ rows := hp.mem_iff.2 (by simp)
  have m2 : (b1 ++ Xn V L v :: b2) ∈ rows := hp.mem_iff.2 (by simp)
  have hpf : (lkRow (Xn V L u) (Xn V L v) (An V S L s 0) (An V S L s 1) a1 a2 b1 b2 :: R).flatten.Perm (An V S L s 0 :: An V S L s 1 :: rows.flatten) := by
    refine List.Perm.trans ?_ ((hp.flatten.symm.cons _).cons _)
    refine List.perm_iff_count.2 fun z => ?_
    simp only [lkRow, List.flatten_cons, List.count_append, List.count_cons, List.count_nil]
    omega
  obtain ⟨P, p1, p2, p3⟩ := h.tour
  obtain ⟨p, P1, e1, q1, q2⟩ := pick (p1.trans hp)
  obtain ⟨p', P2, e2, q3, q4⟩ := pick q2
  have T1 := p2 p (q1.mem_iff.2 (List.mem_cons_self ..))
  have T2 := p2 p' (q1.mem_iff.2 (List.mem_cons_of_mem _ (q3.mem_iff.2 (List.mem_cons_self ..))))
  rw [e1] at T1
  rw [e2] at T2
  have hm : ∀ e, e ∈ P.flatMap Prod.snd ↔ e ∈ p.2 ∨ e ∈ p'.2 ∨ e ∈ P2.flatMap Prod.snd := fun e => by
    rw [(q1.flatMap_right Prod.snd).mem_iff, List.flatMap_cons, List.mem_append, (q3.flatMap_right Prod.snd).mem_iff, List.flatMap_cons, List.mem_append]
  have na : ∀ {d : Nat}, d < 2 → An V S L s d ∉ rows.flatten := fun hd hm => by
    obtain ⟨r, hr, hx⟩ := List.mem_flatten.1 hm
    exact h.no_arc hR hL hF hs hg hd hr hx
  refine ⟨⟨(lkRow (Xn V L u) (Xn V L v) (An V S L s 0) (An V S L s 1) a1 a2 b1 b2, (s, u, v) :: (p.2 ++ p'.2)) :: P2, by simpa using q4, fun p0 hp0 => ?_, fun s' a b => ?_⟩, fun r hr => ?_, hpf.nodup_iff.2 ?_, fun w hw => ?_, fun s' hs' hg' d hd => ?_, by rw [List.length_set]; exact h.len⟩
  · rcases List.mem_cons.1 hp0 with rfl | hp0
    · have := Tour.link (s := s) T1.rot T2.rot
      exact this
    · exact p2 p0 (q1.mem_iff.2 (List.mem_cons_of_mem _ (q3.mem_iff.2 (List.mem_cons_of_mem _ hp0))))
  · have e0 : (s', a, b) ∈ ((lkRow (Xn V L u) (Xn V L v) (An V S L s 0) (An V S L s 1) a1 a2 b1 b2, (s, u, v) :: (p.2 ++ p'.2)) :: P2).flatMap Prod.snd ↔ (s', a, b) = (s, u, v) ∨ (s', a, b) ∈ P.flatMap Prod.snd := by
      rw [hm, List.flatMap_cons, List.mem_append, List.mem_cons, List.mem_append]
      constructor
      · rintro ((h | h | h) | h)
        · exact .inl h
        · exact .inr (.inl h)
        · exact .inr (.inr (.inl h))
        · exact .inr (.inr (.inr h))
      · rintro (h | h | h | h)
        · exact .inl (.inl h)
        · exact .inl (.inr (.inl h))
        · exact .inl (.inr (.inr h))
        · exact .inr h
    rw [e0, p3 s' a b]
    by_cases e : s' = s
    · subst e
      rw [List.getElem?_set_self hsl, hg]
      simp only [Prod.mk.injEq, true_and, Option.some.injEq, reduceCtorEq, or_false]
      constructor <;> (rintro ⟨h1, h2⟩; exact ⟨h1.symm, h2.symm⟩)
    · rw [List.getElem?_set_ne (Ne.symm e)]
      simp [e]
  · rcases List.mem_cons.1 hr with rfl | hr
    · exact ⟨t', ht', hr'⟩
    · obtain ⟨z, hz, e3⟩ := h1.has r (by simp [hr])
      have hrm : r ∈ rows := hp.mem_iff.2 (by simp [hr])
      exact ⟨z, hk z hz (h.rest_ne hR hF hp (by simp [hr]) htr e3) (h.rest_ne hR hF hp2 (by simp [hr]) ht2 e3) (Ne.symm (h.loose_ne hR hL hF hrm e3 hc0)) (Ne.symm (h.loose_ne hR hL hF hrm e3 hc1)), e3⟩
  · rw [List.nodup_cons, List.nodup_cons, List.mem_cons, not_or]
    exact ⟨⟨fun e => by have := (An_inj hR hL hs (by decide) hs (by decide) e).2; omega, na (by decide)⟩, na (by decide), h.nd⟩
  · obtain ⟨r, hr, hx⟩ := h1.cov w hw
    rcases List.mem_cons.1 hr with rfl | hr
    · exact ⟨_, List.mem_cons_self .., by unfold lkRow; simp only [List.mem_append, List.mem_cons] at hx ⊢; rcases hx with h | h | h <;> simp [h]⟩
    · rcases List.mem_cons.1 hr with rfl | hr
      · exact ⟨_, List.mem_cons_self .., by unfold lkRow; simp only [List.mem_append, List.mem_cons] at hx ⊢; rcases hx with h | h | h <;> simp [h]⟩
      · exact ⟨r, List.mem_cons_of_mem _ hr, hx⟩
  · have e : s' ≠ s := fun e => by subst e; rw [List.getElem?_set_self hsl] at hg'; cases hg'
    rw [List.getElem?_set_ne (Ne.symm e)] at hg'
    obtain ⟨z, hz, e2⟩ := h.loose s' hs' hg' d hd
    refine ⟨z, hk z hz (h.loose_ne hR hL hF m1 htr e2) (h.loose_ne hR hL hF m2 ht2 e2) (fun e3 => ?_) (fun e3 => ?_), e2⟩
    · rw [e3, hc0] at e2
      exact e (An_inj hR hL hs (by decide) hs' hd (List.cons.inj e2).1).1.symm
    · rw [e3, hc1] at e2
      exact e (An_inj hR hL hs (by decide) hs' hd (List.cons.inj e2).1).1.symm
/-- What is linked stands in one row, and its arcs part it. -/
theorem Lv.parts (h : Lv V S L ts rows gr) (hR : Rt V S T) (hL : (L : Int) < lv V) (hF : FI V S g mk ts) (hg : gr[s]? = some (some (u, v))) : ∃ r ∈ rows, ∃ c d pp qq rr, Arcs (An V S L) s c d ∧ r = pp ++ c :: (qq ++ d :: rr) ∧ r.Nodup ∧ qq ≠ [] ∧ pp ++ rr ≠ [] := by
  have hs := (h.ends hR hF hg).2.2
  obtain ⟨r, E, hr, hT, hm⟩ := h.edge hg
  obtain ⟨m0, m1, _, _⟩ := hT.mem hm
  have hn : r.Nodup := by
    obtain ⟨t, ht, e⟩ := h.has r hr
    rw [← e]; exact hF.one ht
  have hne : An V S L s 0 ≠ An V S L s 1 := fun e => by have := (An_inj hR hL hs (by decide) hs (by decide) e).2; omega
  obtain ⟨c, d, pp, qq, rr, ha, e⟩ : ∃ c d pp qq rr, Arcs (An V S L) s c d ∧ r = pp ++ c :: (qq ++ d :: rr) := by
    obtain ⟨a, b, e⟩ := List.append_of_mem m0
    rw [e] at m1
    rcases List.mem_append.1 m1 with h1 | h1
    · obtain ⟨a1, a2, e1⟩ := List.append_of_mem h1
      exact ⟨_, _, a1, a2, b, .inr ⟨rfl, rfl⟩, by rw [e, e1]; simp⟩
    · rcases List.mem_cons.1 h1 with h1 | h1
      · exact absurd h1.symm hne
      · obtain ⟨b1, b2, e1⟩ := List.append_of_mem h1
        exact ⟨_, _, a, b1, b2, .inl ⟨rfl, rfl⟩, by rw [e, e1]⟩
  obtain ⟨E1, E2, _, T1, T2, _⟩ := hT.cut (An_Xn hR hL) hn hm e ha
  obtain ⟨u1, h1⟩ := T1.has
  obtain ⟨u2, h2⟩ := T2.has
  exact ⟨r, hr, c, d, pp, qq, rr, ha, e, hn, List.ne_nil_of_mem h1, List.ne_nil_of_mem h2⟩
theorem Lv.cut {c d : Nat} {pp qq rr : List Nat} {ti tu ct dt : Tp} (h : Lv V S L ts rows gr) (hR : Rt V S T) (hL : (L : Int) < lv V) (hF : FI V S g mk ts) (hg : gr[s]? = some (some (u, v))) (ha : Arcs (An V S L) s c d) (hp : rows.Perm ((pp ++ c :: (qq ++ d :: rr)) :: R))
    (htr : t.row = pp ++ c :: (qq ++ d :: rr)) (hti : ti ∈ ts') (htu : tu ∈ ts') (hri : ti.row = qq) (hru : tu.row = pp ++ rr) (hct : ct ∈ ts') (hrc : ct.row = [c]) (hdt : dt ∈ ts') (hrd : dt.row = [d]) (hk : ∀ z ∈ ts, z ≠ t → z ∈ ts') :
    Lv V S L ts' (qq :: (pp ++ rr) :: R) (gr.set s none) ∧ ((Xn V L u ∈ qq ∧ Xn V L v ∈ pp ++ rr) ∨ (Xn V L v ∈ qq ∧ Xn V L u ∈ pp ++ rr)) := by
  have hsl := (List.getElem?_eq_some_iff.1 hg).1
  have hs := (h.ends hR hF hg).2.2
  have h1 := h.perm hp
  have m1 : (pp ++ c :: (qq ++ d :: rr)) ∈ rows := hp.mem_iff.2 (by simp)
  have hpf : rows.flatten.Perm (c :: d :: (qq :: (pp ++ rr) :: R).flatten) := by
    refine hp.flatten.trans ?_
    refine List.perm_iff_count.2 fun z => ?_
    simp only [List.flatten_cons, List.count_append, List.count_cons]
    omega
  have hnd := hpf.nodup_iff.1 h.nd
  rw [List.nodup_cons, List.nodup_cons, List.mem_cons, not_or] at hnd
  obtain ⟨⟨hcd, hc⟩, hd, hn'⟩ := hnd
  have noarc : ∀ {d' : Nat}, d' < 2 → An V S L s d' ∉ (qq :: (pp ++ rr) :: R).flatten := fun hd' hm => by
    rename_i d'
    have : d' = 0 ∨ d' = 1 := by omega
    rcases ha with ⟨rfl, rfl⟩ | ⟨rfl, rfl⟩ <;> rcases this with rfl | rfl
    · exact hc hm
    · exact hd hm
    · exact hd hm
    · exact hc hm
  have hrn : (pp ++ c :: (qq ++ d :: rr)).Nodup := by
    have := hp.flatten.nodup_iff.1 h.nd
    rw [List.flatten_cons, List.nodup_append] at this
    exact this.1
  obtain ⟨P, p1, p2, p3⟩ := h.tour
  obtain ⟨p, P', e1, q1, q2⟩ := pick (p1.trans hp)
  have T1 := p2 p (q1.mem_iff.2 (List.mem_cons_self ..))
  rw [e1] at T1
  have hm : ∀ e, e ∈ P.flatMap Prod.snd ↔ e ∈ p.2 ∨ e ∈ P'.flatMap Prod.snd := fun e => by
    rw [(q1.flatMap_right Prod.snd).mem_iff, List.flatMap_cons, List.mem_append]
  have nP : ∀ {a b : Nat}, (s, a, b) ∉ P'.flatMap Prod.snd := fun hm' => by
    obtain ⟨p', hp', hx⟩ := List.mem_flatMap.1 hm'
    have hin := ((p2 p' (q1.mem_iff.2 (List.mem_cons_of_mem _ hp'))).mem hx).1
    refine noarc (d' := 0) (by decide) (List.mem_flatten.2 ⟨p'.1, ?_, hin⟩)
    exact List.mem_cons_of_mem _ (List.mem_cons_of_mem _ (q2.mem_iff.1 (List.mem_map_of_mem hp')))
  have hin : (s, u, v) ∈ p.2 := by
    rcases (hm _).1 ((p3 s u v).2 hg) with h | h
    · exact h
    · exact absurd h nP
  obtain ⟨E1, E2, pe, TI, TO, hends⟩ := T1.cut (An_Xn hR hL) hrn hin rfl ha
  refine ⟨⟨⟨(qq, E1) :: (pp ++ rr, E2) :: P', by simpa using q2, fun p0 hp0 => ?_, fun s' a b => ?_⟩, fun r hr => ?_, hn', fun w hw => ?_, fun s' hs' hg' d' hd' => ?_, by rw [List.length_set]; exact h.len⟩, hends⟩
  · rcases List.mem_cons.1 hp0 with rfl | hp0
    · exact TI
    · rcases List.mem_cons.1 hp0 with rfl | hp0
      · exact TO
      · exact p2 p0 (q1.mem_iff.2 (List.mem_cons_of_mem _ hp0))
  · rw [List.flatMap_cons, List.flatMap_cons, List.mem_append, List.mem_append]
    by_cases e : s' = s
    · subst e
      rw [List.getElem?_set_self hsl]
      constructor
      · rintro (h | h | h)
        · exact absurd (List.mem_flatten.2 ⟨qq, by simp, (TI.mem h).1⟩) (noarc (by decide))
        · exact absurd (List.mem_flatten.2 ⟨pp ++ rr, by simp, (TO.mem h).1⟩) (noarc (by decide))
        · exact absurd h nP
      · intro h; cases h
    · rw [List.getElem?_set_ne (Ne.symm e), ← p3 s' a b, hm, pe.mem_iff, List.mem_cons, List.mem_append]
      simp [e, or_assoc]
  · rcases List.mem_cons.1 hr with rfl | hr
    · exact ⟨ti, hti, hri⟩
    · rcases List.mem_cons.1 hr with rfl | hr
      · exact ⟨tu, htu, hru⟩
      · obtain ⟨z, hz, e3⟩ := h1.has r (by simp [hr])
        exact ⟨z, hk z hz (h.rest_ne hR hF hp hr htr e3), e3⟩
  · obtain ⟨r, hr, hx⟩ := h1.cov w hw
    rcases List.mem_cons.1 hr with rfl | hr
    · have nx : ∀ {e : Nat}, (e = c ∨ e = d) → Xn V L w ≠ e := fun he => by
        rcases ha with ⟨rfl, rfl⟩ | ⟨rfl, rfl⟩ <;> rcases he with rfl | rfl <;> exact fun e => An_Xn hR hL _ _ _ e.symm
      have n1 := nx (.inl rfl)
      have n2 := nx (.inr rfl)
      simp only [List.mem_append, List.mem_cons, n1, n2, false_or] at hx
      rcases hx with h | h | h
      · exact ⟨pp ++ rr, by simp, by simp [h]⟩
      · exact ⟨qq, by simp, h⟩
      · exact ⟨pp ++ rr, by simp, by simp [h]⟩
    · exact ⟨r, by simp [hr], hx⟩
  · by_cases e : s' = s
    · subst e
      have : d' = 0 ∨ d' = 1 := by omega
      rcases ha with ⟨rfl, rfl⟩ | ⟨rfl, rfl⟩ <;> rcases this with rfl | rfl
      · exact ⟨ct, hct, hrc⟩
      · exact ⟨dt, hdt, hrd⟩
      · exact ⟨dt, hdt, hrd⟩
      · exact ⟨ct, hct, hrc⟩
    · rw [List.getElem?_set_ne (Ne.symm e)] at hg'
      obtain ⟨z, hz, e2⟩ := h.loose s' hs' hg' d' hd'
      exact ⟨z, hk z hz (h.loose_ne hR hL hF m1 htr e2), e2⟩
end

end Go.Proofs.Ytahabfjngeicmaa

/- Are two vertices joined: the reference's answer. -/
namespace Go.Proofs.Ytahabfjngeicmaa
open Go.RowKit
set_option maxRecDepth 100000
section
variable {w : World} {v : Value} {gr : List (Option (Nat × Nat))} {E : List (Nat × Nat × Nat)} {V x y : Nat}
def JoRel (w0 : World) (gr : List (Option (Nat × Nat))) (E : List (Nat × Nat × Nat)) (V x : Nat) (s i : Value) (W : World) : Prop :=
  Below w0.heap.size w0 W ∧ ∃ S j, i = .int .i64 ((j : Nat) : Int) ∧ j ≤ S.length ∧ RI W w0.heap.size s S ∧ Sn gr E V x S j
def JiRel (w0 : World) (gr : List (Option (Nat × Nat))) (E : List (Nat × Nat × Nat)) (V x j c : Nat) (s k : Value) (W : World) : Prop :=
  Below w0.heap.size w0 W ∧ ∃ S m, k = .int .i64 ((m : Nat) : Int) ∧ m ≤ gr.length ∧ S[j]? = some c ∧ RI W w0.heap.size s S ∧ Sn gr E V x S j ∧ Clo gr S c m
end
end Go.Proofs.Ytahabfjngeicmaa

/- The law's play in memory: rows of rows by levels, graphs by levels. -/
namespace Go.Proofs.Ytahabfjngeicmaa
open Go.RowKit

set_option maxRecDepth 100000

/-- All blocks of a type stay. -/
def Kp (ty : TypeId) (w w' : World) : Prop := ∀ i cs, Blk w i ty cs → Blk w' i ty cs
/-- A level's rows in memory. -/
def RsI (W : World) (base : Nat) (v : Value) (rows : List (List Nat)) : Prop := ∃ vs, RowV W base v vs ∧ vs.length = rows.length ∧ ∀ (i : Nat) (u : Value) (r : List Nat), vs[i]? = some u → rows[i]? = some r → LI W u r
/-- A play. -/
structure PG (W : World) (V S T : Int) (n q p gb cap rb lb cr cl base : Nat) (gB : Nat → Nat) (m : Nat) (g : Mg9) (ts : List Tp) (vr : Nat → Value) (rs : Nat → List (List Nat)) (gr : Nat → List (Option (Nat × Nat))) : Prop where
  blk : Blk W q 50 #[.int .i64 V, .int .i64 S, .int .i64 T, .int .i64 V, .int .i64 S, .int .i64 T, .iface 95 (pmV p), .int .i64 1, .int .i64 0, .slice (some ⟨rb, 0, none⟩) n cr, .slice (some ⟨lb, 0, none⟩) n cl]
  fm : FM W V S T p gb cap m g ts
  rw : ∃ zs, Blk W rb 100 zs ∧ ∀ L, L < n → zs[L]? = some (vr L)
  lw : ∃ zs, Blk W lb 38 zs ∧ ∀ L, L < n → zs[L]? = some (.slice (some ⟨gB L, 0, none⟩) S.toNat S.toNat)
  rs : ∀ L, L < n → RsI W base (vr L) (rs L)
  gs : ∀ L, L < n → (gr L).length = S.toNat ∧ ∃ zs, Blk W (gB L) 36 zs ∧ ∀ k e, (gr L)[k]? = some e → zs[k * 2]? = some (.int .i64 (end1 e)) ∧ zs[k * 2 + 1]? = some (.int .i64 (end2 e))
  gd : ∀ L L', L < n → L' < n → gB L = gB L' → L = L'
  hn : (n : Int) = lv V
  bq : base ≤ q
  bp : base ≤ p
  bg : base ≤ gb
  br : base ≤ rb
  bl : base ≤ lb
  bB : ∀ L, L < n → base ≤ gB L
section
variable {w w' W w0 : World} {V S T : Int} {n q p gb cap rb lb cr cl base m m' i k x L : Nat} {gB : Nat → Nat} {g g' : Mg9} {ts ts' : List Tp} {vr : Nat → Value} {rs : Nat → List (List Nat)} {gr : Nat → List (Option (Nat × Nat))} {ty ty' : TypeId} {v u : Value} {l : List Nat} {rows : List (List Nat)} {vs : List Value}
theorem Kp.below (hb : Below w.heap.size w w') : Kp ty w w' := fun _ _ h => Blk.below h hb (Blk.lt h)
theorem Kp.tree (A : TM w V S T p gb cap m g) (ho : Only p gb w w') (h1 : ty ≠ 119) (h2 : ty ≠ 98) : Kp ty w w' := fun _ _ h => Blk.treap h A ho h1 h2
theorem Kp.set {cs : Array Value} (hq : Blk w q ty' cs) (hne : ty ≠ ty') (j : Nat) (u : Value) : Kp ty w (w.setCell ⟨q, j, none⟩ u) := fun _ _ h => h.only (only_set w q j u) (h.ne_ hq hne) (h.ne_ hq hne)
theorem LI.kp (h : LI w v l) (hk : Kp 3 w w') : LI w' v l := by
  obtain ⟨a, cap, e, h1, h2, h3, h4⟩ := h
  refine ⟨a, cap, e, h1, h2, h3, fun hc => ?_⟩
  obtain ⟨b, off, zs, e2, hz, h5⟩ := h4 hc
  exact ⟨b, off, zs, e2, hk b zs hz, h5⟩
theorem RowV.kp (h : RowV w base v vs) (hk : Kp 53 w w') : RowV w' base v vs := by
  refine ⟨h.1, ?_⟩
  rcases h.2 with hn | ⟨g, cap, cur, e, hg, hgg, rest⟩
  · exact .inl hn
  · exact .inr ⟨g, cap, cur, e, hg, hk g cur hgg, rest⟩
theorem RsI.kp (h : RsI w base v rows) (h1 : Kp 53 w w') (h2 : Kp 3 w w') : RsI w' base v rows := by
  obtain ⟨vs, a, b, c⟩ := h
  exact ⟨vs, a.kp h1, b, fun i u r hu hr => (c i u r hu hr).kp h2⟩
theorem RsI.below (h : RsI w base v rows) (hb : Below w.heap.size w w') : RsI w' base v rows := h.kp (.below hb) (.below hb)
theorem RsI.mono {base' : Nat} (h : RsI w base v rows) (hb : base' ≤ base) : RsI w base' v rows := by
  obtain ⟨vs, a, b, c⟩ := h
  exact ⟨vs, a.mono hb, b, c⟩
/-- One of the rows, in its slice. -/
theorem RsI.at (h : RsI w base v rows) {r : List Nat} (hr : rows[i]? = some r) : ∃ rg c a1 c1, v = .slice (some ⟨rg, 0, none⟩) rows.length c ∧ rg < w.heap.size ∧ w.cell? ⟨rg, i, none⟩ = some (.slice a1 r.length c1) ∧ LI w (.slice a1 r.length c1) r := by
  obtain ⟨vs, a, b, c⟩ := h
  have hi : i < vs.length := by rw [b]; exact (List.getElem?_eq_some_iff.1 hr).1
  have hv := List.getElem?_eq_getElem hi
  obtain ⟨rg, c2, e, _, hlt, cs, hz, hcs⟩ := a.at hv
  have hl := c i _ r hv hr
  obtain ⟨a1, c1, e1, _⟩ := hl.shape
  refine ⟨rg, c2, a1, c1, by rw [e, b], hlt, ?_, by rw [← e1]; exact hl⟩
  rw [← e1]
  exact (hz.cell i).trans (hcs i _ hv)
theorem RsI.slice (h : RsI w base v rows) : ∃ a c, v = .slice a rows.length c := by
  obtain ⟨vs, a, b, c⟩ := h
  obtain ⟨a1, c1, e⟩ := a.slice
  exact ⟨a1, c1, by rw [e, b]⟩
theorem PG.kp (h : PG w V S T n q p gb cap rb lb cr cl base gB m g ts vr rs gr) (hk : ∀ ty, ty = 50 ∨ ty = 100 ∨ ty = 38 ∨ ty = 53 ∨ ty = 3 ∨ ty = 36 → Kp ty w w') (hf : FM w' V S T p gb cap m' g' ts') : PG w' V S T n q p gb cap rb lb cr cl base gB m' g' ts' vr rs gr := by
  obtain ⟨z1, a1, b1⟩ := h.rw
  obtain ⟨z2, a2, b2⟩ := h.lw
  refine ⟨hk _ (by simp) _ _ h.blk, hf, ⟨z1, hk _ (by simp) _ _ a1, b1⟩, ⟨z2, hk _ (by simp) _ _ a2, b2⟩, fun L hL => (h.rs L hL).kp (hk _ (by simp)) (hk _ (by simp)), fun L hL => ?_, h.gd, h.hn, h.bq, h.bp, h.bg, h.br, h.bl, h.bB⟩
  obtain ⟨c0, z3, a3, b3⟩ := h.gs L hL
  exact ⟨c0, z3, hk _ (by simp) _ _ a3, b3⟩
theorem PG.below (h : PG w V S T n q p gb cap rb lb cr cl base gB m g ts vr rs gr) (hb : Below w.heap.size w w') : PG w' V S T n q p gb cap rb lb cr cl base gB m g ts vr rs gr := h.kp (fun _ _ => .below hb) (h.fm.below hb)
theorem PG.drew (h : PG w V S T n q p gb cap rb lb cr cl base gB m g ts vr rs gr) : PG w.drew V S T n q p gb cap rb lb cr cl base gB m g ts vr rs gr := h.below (Below.refl _ _).drew
theorem PG.more (h : PG w V S T n q p gb cap rb lb cr cl base gB m g ts vr rs gr) (hm : m ≤ m') : PG w V S T n q p gb cap rb lb cr cl base gB m' g ts vr rs gr := h.kp (fun _ _ _ _ h => h) (h.fm.more hm)
/-- Behind a call on the trees. -/
theorem PG.tree (h : PG w V S T n q p gb cap rb lb cr cl base gB m g ts vr rs gr) (hf : FM w' V S T p gb cap m' g' ts') (ho : Only p gb w w') : PG w' V S T n q p gb cap rb lb cr cl base gB m' g' ts' vr rs gr :=
  h.kp (fun ty hty => .tree h.fm.tm ho (by rcases hty with rfl | rfl | rfl | rfl | rfl | rfl <;> decide) (by rcases hty with rfl | rfl | rfl | rfl | rfl | rfl <;> decide)) hf
/-- A level's rows are told anew. -/
theorem PG.set_rows (h : PG w V S T n q p gb cap rb lb cr cl base gB m g ts vr rs gr) (hL : L < n) (hv : RsI w base v rows) : PG (w.setCell ⟨rb, L, none⟩ v) V S T n q p gb cap rb lb cr cl base gB m g ts (fun y => if y = L then v else vr y) (fun y => if y = L then rows else rs y) gr := by
  obtain ⟨z1, a1, b1⟩ := h.rw
  obtain ⟨z2, a2, b2⟩ := h.lw
  have hz : L < z1.size := (Array.getElem?_eq_some_iff.1 (b1 L hL)).1
  have kp : ∀ {ty}, ty ≠ 100 → Kp ty w (w.setCell ⟨rb, L, none⟩ v) := fun hne => .set a1 hne L v
  refine ⟨kp (by decide) _ _ h.blk, ⟨h.fm.tm.far a1 (by decide) (by decide) v, h.fm.fi⟩, ⟨_, a1.set_ L v, fun y hy => ?_⟩, ⟨z2, kp (by decide) _ _ a2, b2⟩, fun y hy => ?_, fun y hy => ?_, h.gd, h.hn, h.bq, h.bp, h.bg, h.br, h.bl, h.bB⟩
  · by_cases e : y = L
    · subst e; rw [if_pos rfl]; simp [hz]
    · rw [if_neg e, Array.getElem?_setIfInBounds_ne (Ne.symm e)]; exact b1 y hy
  · by_cases e : y = L
    · subst e; rw [if_pos rfl, if_pos rfl]; exact hv.kp (kp (by decide)) (kp (by decide))
    · rw [if_neg e, if_neg e]; exact (h.rs y hy).kp (kp (by decide)) (kp (by decide))
  · obtain ⟨c0, z3, a3, b3⟩ := h.gs y hy
    exact ⟨c0, z3, kp (by decide) _ _ a3, b3⟩
theorem PG.cells (h : PG w V S T n q p gb cap rb lb cr cl base gB m g ts vr rs gr) : w.cell? ⟨q, 0, none⟩ = some (.int .i64 V) ∧ w.cell? ⟨q, 1, none⟩ = some (.int .i64 S) ∧ w.cell? ⟨q, 2, none⟩ = some (.int .i64 T) ∧ w.cell? ⟨q, 3, none⟩ = some (.int .i64 V) ∧ w.cell? ⟨q, 4, none⟩ = some (.int .i64 S) ∧ w.cell? ⟨q, 5, none⟩ = some (.int .i64 T) ∧ w.cell? ⟨q, 6, none⟩ = some (.iface 95 (pmV p)) ∧ w.cell? ⟨q, 7, none⟩ = some (.int .i64 1) ∧ w.cell? ⟨q, 8, none⟩ = some (.int .i64 0) ∧ w.cell? ⟨q, 9, none⟩ = some (.slice (some ⟨rb, 0, none⟩) n cr) ∧ w.cell? ⟨q, 10, none⟩ = some (.slice (some ⟨lb, 0, none⟩) n cl) :=
  ⟨Blk.cell h.blk 0, Blk.cell h.blk 1, Blk.cell h.blk 2, Blk.cell h.blk 3, Blk.cell h.blk 4, Blk.cell h.blk 5, Blk.cell h.blk 6, Blk.cell h.blk 7, Blk.cell h.blk 8, Blk.cell h.blk 9, Blk.cell h.blk 10⟩
theorem PG.lt (h : PG w V S T n q p gb cap rb lb cr cl base gB m g ts vr rs gr) : q < w.heap.size := Blk.lt h.blk
theorem PG.row_cell (h : PG w V S T n q p gb cap rb lb cr cl base gB m g ts vr rs gr) (hL : L < n) : w.cell? ⟨rb, L, none⟩ = some (vr L) := by
  obtain ⟨z1, a1, b1⟩ := h.rw
  exact (a1.cell L).trans (b1 L hL)
theorem PG.rb_lt (h : PG w V S T n q p gb cap rb lb cr cl base gB m g ts vr rs gr) : rb < w.heap.size := by obtain ⟨z1, a1, b1⟩ := h.rw; exact a1.lt
theorem PG.lb_lt (h : PG w V S T n q p gb cap rb lb cr cl base gB m g ts vr rs gr) : lb < w.heap.size := by obtain ⟨z1, a1, b1⟩ := h.lw; exact a1.lt
theorem PG.gr_cell (h : PG w V S T n q p gb cap rb lb cr cl base gB m g ts vr rs gr) (hL : L < n) : w.cell? ⟨lb, L, none⟩ = some (.slice (some ⟨gB L, 0, none⟩) S.toNat S.toNat) := by
  obtain ⟨z1, a1, b1⟩ := h.lw
  exact (a1.cell L).trans (b1 L hL)
theorem PG.gi (h : PG w V S T n q p gb cap rb lb cr cl base gB m g ts vr rs gr) (hL : L < n) : GI w (.slice (some ⟨gB L, 0, none⟩) S.toNat S.toNat) (gr L) := by
  obtain ⟨c0, z3, a3, b3⟩ := h.gs L hL
  exact ⟨gB L, 0, S.toNat, z3, by rw [c0], a3, fun k e he => by simpa using b3 k e he⟩
end

section
variable {w : World} {V S T : Int} {n q p gb cap rb lb cr cl base m i x L : Nat} {gB : Nat → Nat} {g : Mg9} {ts : List Tp} {vr : Nat → Value} {rs : Nat → List (List Nat)} {gr : Nat → List (Option (Nat × Nat))} {r : List Nat}
def RoxRel (w0 : World) (rows : List (List Nat)) (x : Nat) (i : Value) (W : World) : Prop := W = w0 ∧ ∃ k, k ≤ rows.length ∧ i = .int .i64 ((k : Nat) : Int) ∧ ∀ (j : Nat) (r : List Nat), j < k → rows[j]? = some r → x ∉ r
def RoyRel (w0 : World) (r : List Nat) (x : Nat) (i : Value) (W : World) : Prop := W = w0 ∧ ∃ k, k ≤ r.length ∧ i = .int .i64 ((k : Nat) : Int) ∧ x ∉ r.take k
/-- Which row has a node. -/
theorem row_of (h : PG w V S T n q p gb cap rb lb cr cl base gB m g ts vr rs gr) (hL : L < n) (hr : (rs L)[i]? = some r) (hx : x ∈ r) (hd : ∀ j r', (rs L)[j]? = some r' → x ∈ r' → j = i) (hl : (rs L).length ≤ 1000) (hll : ∀ r' ∈ rs L, r'.length ≤ 1000) :
    Calls Try.prog 43 #[.pointer (some ⟨q, 0, none⟩), .int .i64 (L : Int), .int .i64 (x : Int)] w fun e w' => e = .returned (.int .i64 (i : Int)) ∧ Below w.heap.size w w' := by
  obtain ⟨_, _, _, _, _, _, _, _, _, c9, _⟩ := h.cells
  have qlt := h.lt
  have cr1 := h.row_cell hL
  have rlt := h.rb_lt
  have hn16 : (L : Int) < (n : Int) := by omega
  have HRS := Lib.hid (h.rs L hL)
  obtain ⟨a0, c0, e0⟩ := (h.rs L hL).slice
  rw [e0] at cr1 HRS
  have HR := Lib.hid hr
  have HX := Lib.hid hx
  have HD := Lib.hid hd
  have HLL := Lib.hid hll
  obtain ⟨N, hN⟩ : ∃ N, (rs L).length = N := ⟨_, rfl⟩
  have HN := Lib.hid hN
  rw [hN] at cr1 hl
  clear h hr hx hd hll hN e0 hL
  go_enter Try.func43, Try.ntmps43
  go_wp2_with fail
  go_loopw [19] (fun i wr => RoxRel w (rs L) x i wr) (fun i _ => N - (intOf i).toNat)
  case atStart => exact ⟨rfl, 0, Nat.zero_le _, rfl, fun j _ h => absurd h (Nat.not_lt_zero _)⟩
  case round =>
    obtain ⟨rfl, k, hk, rfl, hno⟩ := hrel
    rw [HN.out] at hk
    have HNO := Lib.hid hno
    clear hno
    by_cases hkN : k < N
    · have kI : (k : Int) < (N : Int) := by omega
      have k0 : (0 : Int) ≤ (k : Int) := by omega
      obtain ⟨rk, hrk⟩ : ∃ rk, (rs L)[k]? = some rk := ⟨_, List.getElem?_eq_getElem (by rw [HN.out]; exact hkN)⟩
      have HRK := Lib.hid hrk
      obtain ⟨rg, c2, a1, c1, e1, rglt, ck, hli⟩ := HRS.out.at hrk
      injection e1 with e1 e2 e3
      subst e1 e3
      have HLI := Lib.hid hli
      obtain ⟨M, hM⟩ : ∃ M, rk.length = M := ⟨_, rfl⟩
      have HM := Lib.hid hM
      have hMl : M ≤ 1000 := by rw [← hM]; exact HLL.out rk (List.mem_of_getElem? hrk)
      rw [hM] at ck HLI
      clear hrk hli hM e2
      go_wp2_with fail
      go_loopw [26] (fun i wr2 => RoyRel wr rk x i wr2) (fun i _ => M - (intOf i).toNat)
      case atStart => exact ⟨rfl, 0, Nat.zero_le _, rfl, by simp⟩
      case round =>
        obtain ⟨rfl, j, hj, rfl, hnj⟩ := hrel
        rw [HM.out] at hj
        have HNJ := Lib.hid hnj
        clear hnj
        by_cases hjM : j < M
        · have jI : (j : Int) < (M : Int) := by omega
          have j0 : (0 : Int) ≤ (j : Int) := by omega
          obtain ⟨y, hy⟩ : ∃ y, rk[j]? = some y := ⟨_, List.getElem?_eq_getElem (by rw [HM.out]; exact hjM)⟩
          have HY := Lib.hid hy
          obtain ⟨b1, o1, rfl, cj⟩ := HLI.out.at hy
          clear hy
          by_cases hxy : x = y
          · subst hxy
            have eb : ((x : Int) == (x : Int)) = true := beq_self_eq_true _
            have hki : k = i := HD.out k rk HRK.out (List.mem_of_getElem? HY.out)
            clear hkN hjM
            go_wp2_with fail
            go_ret
            exact ⟨by rw [hki]; rfl, Below.refl _ _⟩
          · have eb : ((x : Int) == (y : Int)) = false := beq_eq_false_iff_ne.2 (by omega)
            go_wp2_with fail
            go_roundw
            case rel => exact ⟨rfl, j + 1, by rw [HM.out]; omega, by simp, by rw [List.take_add_one, HY.out]; simp only [Option.toList_some, List.mem_append, List.mem_singleton, not_or]; exact ⟨HNJ.out, hxy⟩⟩
            case measure => simp [intOf]; omega
        · have ejM : j = M := by omega
          subst ejM
          have jI : ¬ (j : Int) < (j : Int) := by omega
          have HNR : Hid (x ∉ rk) := Lib.hid (by have := HNJ.out; rwa [← HM.out, List.take_length] at this)
          clear hj hjM
          go_wp2_with fail
          go_roundw
          case rel => exact ⟨rfl, k + 1, by rw [HN.out]; omega, by simp, fun j' r' h1 h2 => by
            by_cases e : j' = k
            · subst e; rw [HRK.out] at h2; injection h2 with h2; rw [← h2]; exact HNR.out
            · exact HNO.out j' r' (by omega) h2⟩
          case measure => simp [intOf]; omega
    · have hkN2 : k = N := by omega
      exfalso
      obtain ⟨q1, _⟩ := List.getElem?_eq_some_iff.1 HR.out
      exact HNO.out i r (by rw [hkN2, ← HN.out]; exact q1) HR.out HX.out
end

end Go.Proofs.Ytahabfjngeicmaa

/- The law's play: without. -/
namespace Go.Proofs.Ytahabfjngeicmaa
open Go.RowKit

set_option maxRecDepth 100000

section
variable {w w' W w0 : World} {V S T : Int} {n q p gb cap rb lb cr cl base m L : Nat} {gB : Nat → Nat} {g : Mg9} {ts : List Tp} {vr : Nat → Value} {rs : Nat → List (List Nat)} {gr : Nat → List (Option (Nat × Nat))} {rows : List (List Nat)} {vs : List Value}
def WoxRel (w0 : World) (vs : List Value) (i k : Nat) (v j : Value) (W : World) : Prop :=
  ∃ n, n ≤ vs.length ∧ j = .int .i64 ((n : Nat) : Int) ∧ RowV W w0.heap.size v (wo i k 0 (vs.take n)) ∧ Below w0.heap.size w0 W
theorem wo_rows (hlen : vs.length = rows.length) (hv : ∀ (i : Nat) (u : Value) (r : List Nat), vs[i]? = some u → rows[i]? = some r → LI w u r) (i k : Nat) : (wo i k 0 vs).length = (wo i k 0 rows).length ∧ ∀ (j : Nat) (u : Value) (r : List Nat), (wo i k 0 vs)[j]? = some u → (wo i k 0 rows)[j]? = some r → LI w u r :=
  ⟨wo_len i k 0 vs rows hlen, fun j u r h1 h2 => by obtain ⟨b, e1, e2, _⟩ := wo_two i k 0 vs rows hlen j u r h1 h2; exact hv b u r e1 e2⟩
set_option maxHeartbeats 2000000 in
theorem without_of (h : PG w V S T n q p gb cap rb lb cr cl base gB m g ts vr rs gr) (hL : L < n) (hl : (rs L).length ≤ 1000) {i k : Nat} :
    Calls Try.prog 45 #[.pointer (some ⟨q, 0, none⟩), .int .i64 (L : Int), .int .i64 (i : Int), .int .i64 (k : Int)] w fun e w' => ∃ v, e = .returned v ∧ RsI w' w.heap.size v (wo i k 0 (rs L)) ∧ Below w.heap.size w w' := by
  obtain ⟨_, _, _, _, _, _, _, _, _, c9, _⟩ := h.cells
  have qlt := h.lt
  have cr1 := h.row_cell hL
  have rlt := h.rb_lt
  have hn16 : (L : Int) < (n : Int) := by omega
  obtain ⟨vs, hrv, hlen, hro⟩ := h.rs L hL
  have HRO := Lib.hid hro
  have HLEN := Lib.hid hlen
  have hone : ∀ u ∈ vs, ∃ a1 n1 c1, u = .slice a1 n1 c1 := fun u hu => by
    obtain ⟨a, ha⟩ := List.mem_iff_getElem?.1 hu
    have hl := (List.getElem?_eq_some_iff.1 ha).1
    obtain ⟨a1, c1, e, _⟩ := (hro a u _ ha (List.getElem?_eq_getElem (by omega))).shape
    exact ⟨_, _, _, e⟩
  have HONE := Lib.hid hone
  obtain ⟨av, vc, hvs⟩ := hrv.slice
  rw [hvs] at cr1 hrv
  have HRV := Lib.hid hrv
  obtain ⟨N9, hN9⟩ : ∃ N9, vs.length = N9 := ⟨_, rfl⟩
  have HN9 := Lib.hid hN9
  have hts9 : N9 ≤ 1000 := by omega
  rw [hN9] at cr1 HRV
  clear h hlen hN9 hone hro hrv hvs hl hL
  go_enter Try.func45, Try.ntmps45
  go_wp2_with fail
  go_loopw [9, 20] (fun v j wr => WoxRel w vs i k v j wr) (fun _ j _ => N9 - (intOf j).toNat)
  case atStart => exact ⟨0, Nat.zero_le _, rfl, RowV.nil _ _, Below.refl _ _⟩
  case round =>
    obtain ⟨n2, hn, rfl, hR, hB⟩ := hrel
    rw [HN9.out] at hn
    have HR := Lib.hid hR
    have HB := Lib.hid hB
    by_cases hnl : n2 < N9
    · obtain ⟨u, hu⟩ : ∃ u, vs[n2]? = some u := ⟨_, List.getElem?_eq_getElem (by rw [HN9.out]; exact hnl)⟩
      have HTK := Lib.hid (wo_take i k hu)
      obtain ⟨a1, n1, c1, rfl⟩ := HONE.out u (List.mem_of_getElem? hu)
      obtain ⟨u, hU⟩ : ∃ u, u = Value.slice a1 n1 c1 := ⟨_, rfl⟩
      have HOU : Hid (u.oneCell' = true) := Lib.hid (by rw [hU]; rfl)
      rw [← hU] at HTK hu
      have HU := Lib.hid hU
      obtain ⟨cur, hcur⟩ : ∃ cur, wo i k 0 (vs.take n2) = cur := ⟨_, rfl⟩
      have hcl : cur.length ≤ 100000 := by
        have e1 : cur.length ≤ n2 := by
          rw [← hcur]
          have h2 := wo_le i k 0 (vs.take n2)
          rw [List.length_take] at h2; omega
        omega
      rw [hcur] at HR HTK
      obtain ⟨av2, vc2, rfl⟩ := HR.out.slice
      rcases HRV.out.shape with ⟨_, h0⟩ | ⟨rg, cap, cs, e, _, hz, _, _, hcs⟩
      · exfalso; rw [h0] at hu; simp at hu
      · injection e with e1 e2 e3
        clear e2
        subst e1 e3
        have cu : wr.cell? ⟨rg, n2, none⟩ = some (.slice a1 n1 c1) := hU ▸ ((hz.below hB hz.lt).cell n2).trans (hcs n2 u hu)
        have glt : rg < wr.heap.size := by have := hz.lt; have := hB.size; omega
        have h0n : (0 : Int) ≤ (n2 : Int) := by omega
        have h1n : (n2 : Int) < (N9 : Int) := by omega
        have hws := hB.size
        clear hR hB hu hcur hz hcs hU
        by_cases hc : n2 ≠ i ∧ n2 ≠ k
        · have hni : ((n2 : Int) != (i : Int)) = true := bne_iff_ne.2 (by omega)
          have hnk : ((n2 : Int) != (k : Int)) = true := bne_iff_ne.2 (by omega)
          have HT2 : Hid (wo i k 0 (vs.take (n2 + 1)) = cur ++ [.slice a1 n1 c1]) := Lib.hid (by have := HTK.out; rw [if_pos hc, HU.out] at this; exact this)
          clear hc
          go_wp2_with (at_builtin; go_loud (refine wpList_append_row _ rfl _ _ rfl rfl (HR.out.alloc _) (.slice a1 n1 c1) rfl ⟨wr.heap.size, 0, none⟩ 1 rfl (cell_new1 _ _ _) hcl (Nat.le_trans hws (by simp)) ?_))
          intro v' w3 hR3 hg3
          have HR3 := Lib.hid hR3
          have HB3 := Lib.hid ((HB.out.alloc HB.out.size (.cells #[.slice a1 n1 c1] 53)).grown hg3 (by simp; omega) (fun r hr => ((HR.out.alloc (.cells #[.slice a1 n1 c1] 53)).lt r hr).1))
          clear hR3 hg3
          go_wp2_with fail
          go_roundw
          case rel => exact ⟨n2 + 1, by rw [HN9.out]; exact hnl, by simp, by rw [HT2.out]; exact HR3.out, HB3.out⟩
          case measure => simp [intOf]; omega
        · have HT2 : Hid (wo i k 0 (vs.take (n2 + 1)) = cur) := Lib.hid (by have := HTK.out; rw [if_neg hc, List.append_nil] at this; exact this)
          by_cases hni : n2 = i
          · have hb : ((n2 : Int) != (i : Int)) = false := by rw [hni]; simp
            clear hc hni
            go_wp2_with fail
            go_roundw
            case rel => exact ⟨n2 + 1, by rw [HN9.out]; exact hnl, by simp, by rw [HT2.out]; exact HR.out, HB.out⟩
            case measure => simp [intOf]; omega
          · have hb : ((n2 : Int) != (i : Int)) = true := bne_iff_ne.2 (by omega)
            have hb2 : ((n2 : Int) != (k : Int)) = false := by
              have : n2 = k := by omega
              rw [this]; simp
            clear hc
            go_wp2_with fail
            go_roundw
            case rel => exact ⟨n2 + 1, by rw [HN9.out]; exact hnl, by simp, by rw [HT2.out]; exact HR.out, HB.out⟩
            case measure => simp [intOf]; omega
    · have hn2 : n2 = N9 := by omega
      subst hn2
      have hI : ¬ (n2 : Int) < (n2 : Int) := by omega
      rw [← HN9.out, List.take_length] at hR
      have HR2 := Lib.hid hR
      clear hR hB
      go_wp2_with fail
      go_ret
      have HW := wo_rows (w := wr) HLEN.out (fun j u r h1 h2 => (HRO.out j u r h1 h2).below HB.out) i k
      exact ⟨_, rfl, ⟨_, HR2.out, HW.1, HW.2⟩, HB.out⟩
end

end Go.Proofs.Ytahabfjngeicmaa

/- The law's play, whole: what its levels have; which vertices are joined; how many a row has. -/
namespace Go.Proofs.Ytahabfjngeicmaa
open Go.RowKit

set_option maxRecDepth 100000

section
variable {V S T : Int} {L s u v i j x y : Nat} {ts : List Tp} {rows : List (List Nat)} {gr : List (Option (Nat × Nat))} {r r' : List Nat} {g : Mg9} {mk : Nat → Nat}
theorem row_nd (h : rows.flatten.Nodup) (hr : r ∈ rows) : r.Nodup := by
  obtain ⟨i, hi⟩ := List.mem_iff_getElem?.1 hr
  have hp := (wo_perm1 (Nat.zero_le _) hi).flatten.nodup_iff.1 h
  rw [List.flatten_cons, List.nodup_append] at hp
  exact hp.1
theorem Lv.joined (h : Lv V S L ts rows gr) (hR : Rt V S T) (hL : (L : Int) < lv V) (hF : FI V S g mk ts) : ∃ E, Lnk gr E ∧ (∀ s a b, (s, a, b) ∈ E → a < V.toNat ∧ b < V.toNat) ∧ ∀ r ∈ rows, ∀ u v, Xn V L u ∈ r → (Way E u v ↔ Xn V L v ∈ r) := by
  obtain ⟨P, p1, p2, p3⟩ := h.tour
  refine ⟨_, p3, fun s a b hm => ?_, fun r hr u v hu => ⟨fun hw => ?_, fun hv => ?_⟩⟩
  · have := h.ends hR hF ((p3 s a b).1 hm)
    omega
  · have one : ∀ {s a b w : Nat}, (s, a, b) ∈ P.flatMap Prod.snd → (w = a ∨ w = b) → Xn V L w ∈ r → Xn V L a ∈ r ∧ Xn V L b ∈ r := by
      intro s a b w hm hw hx
      obtain ⟨p, hp, hm⟩ := List.mem_flatMap.1 hm
      obtain ⟨_, _, ma, mb⟩ := (p2 p hp).mem hm
      have hr2 : p.1 ∈ rows := p1.mem_iff.1 (List.mem_map_of_mem hp)
      obtain ⟨i, hi⟩ := List.mem_iff_getElem?.1 hr
      obtain ⟨j, hj⟩ := List.mem_iff_getElem?.1 hr2
      have hwp : Xn V L w ∈ p.1 := by rcases hw with rfl | rfl; exact ma; exact mb
      have := idx_uniq h.nd hi hj hx hwp
      subst this
      rw [hi] at hj
      injection hj with hj
      rw [hj]; exact ⟨ma, mb⟩
    clear h hF hr p1 p2 p3
    induction hw with
    | refl => exact hu
    | fore _ he ih => exact (one he (.inl rfl) (ih hu)).2
    | back _ he ih => exact (one he (.inr rfl) (ih hu)).1
  · obtain ⟨p, hp, rfl⟩ := List.mem_map.1 (p1.mem_iff.2 hr)
    exact ((p2 p hp).joined (Xn_inj hR hL) (An_Xn hR hL) hu hv).mono fun e he => List.mem_flatMap.2 ⟨p, hp, he⟩
theorem vxN_X (hR : Rt V S T) (hL : (L : Int) < lv V) (hu : (u : Int) < V) : vxN V (Xn V L u) = true := by
  unfold vxN; rw [Xn_in hu, (vxI_in hR hL hu).2.2.1]; rfl
theorem vxN_A (hR : Rt V S T) (hL : (L : Int) < lv V) (hs : (s : Int) < S) {d : Nat} (hd : d < 2) : vxN V (An V S L s d) = false := by
  unfold vxN; rw [An_in hs hd, (arI_in hR hL hs hd).2.2.1]; rfl
/-- A row's node is a vertex's, or an arc's. -/
theorem Lv.kind (h : Lv V S L ts rows gr) (hR : Rt V S T) (hF : FI V S g mk ts) (hr : r ∈ rows) (hy : y ∈ r) : (∃ u : Nat, (u : Int) < V ∧ y = Xn V L u) ∨ ∃ s d : Nat, (s : Int) < S ∧ d < 2 ∧ y = An V S L s d := by
  have hle := (h.node_le hF hr hy).2
  obtain ⟨E, hT, _⟩ := h.edges hr
  rcases hT.node hy with ⟨u, rfl⟩ | ⟨s, a, b, _, e⟩
  · exact .inl ⟨u, Xn_node hR hle, rfl⟩
  · rcases e with rfl | rfl
    · exact .inr ⟨s, 0, (An_node hR hle).1, by decide, rfl⟩
    · exact .inr ⟨s, 1, (An_node hR hle).1, by decide, rfl⟩
theorem Lv.count (h : Lv V S L ts rows gr) (hR : Rt V S T) (hL : (L : Int) < lv V) (hF : FI V S g mk ts) (hr : r ∈ rows) : cntV (vxN V) r = ((List.range V.toNat).filter fun v => decide (Xn V L v ∈ r)).length := by
  unfold cntV
  refine Eq.trans ?_ (List.length_map (Xn V L))
  refine List.Perm.length_eq ((List.perm_ext_iff_of_nodup ?_ ?_).2 fun y => ?_)
  · exact (row_nd h.nd hr).filter _
  · have hn : ((List.range V.toNat).filter fun v => decide (Xn V L v ∈ r)).Nodup := List.nodup_range.filter _
    unfold List.Nodup at hn ⊢
    rw [List.pairwise_map]
    exact hn.imp fun hne e => hne (Xn_inj hR hL _ _ e)
  · rw [List.mem_filter, List.mem_map]
    constructor
    · rintro ⟨hy, hv⟩
      rcases h.kind hR hF hr hy with ⟨u, hu, rfl⟩ | ⟨s, d, hs, hd, rfl⟩
      · exact ⟨u, List.mem_filter.2 ⟨List.mem_range.2 (by omega), decide_eq_true hy⟩, rfl⟩
      · rw [vxN_A hR hL hs hd] at hv; cases hv
    · rintro ⟨u, hu, rfl⟩
      obtain ⟨hu1, hu2⟩ := List.mem_filter.1 hu
      have := List.mem_range.1 hu1
      exact ⟨of_decide_eq_true hu2, vxN_X hR hL (by omega)⟩
end

/-- A play, and what its levels have. -/
structure PL (W : World) (V S T : Int) (n q p gb cap rb lb cr cl base : Nat) (gB : Nat → Nat) (m : Nat) (g : Mg9) (ts : List Tp) (vr : Nat → Value) (rs : Nat → List (List Nat)) (gr : Nat → List (Option (Nat × Nat))) : Prop where
  pg : PG W V S T n q p gb cap rb lb cr cl base gB m g ts vr rs gr
  lv : ∀ L, L < n → Lv V S L ts (rs L) (gr L)
  v8 : V ≤ 8
  s8 : S ≤ 8
section
variable {w w' W w0 : World} {V S T : Int} {n q p gb cap rb lb cr cl base m m' L : Nat} {gB : Nat → Nat} {g g' : Mg9} {ts ts' : List Tp} {vr : Nat → Value} {rs : Nat → List (List Nat)} {gr : Nat → List (Option (Nat × Nat))} {r : List Nat}
theorem nN_small (hR : Rt V S T) (hv : V ≤ 8) (hs : S ≤ 8) : nN V S ≤ 96 := by
  have h1 := nN_int hR
  have z := sizes hR
  have h2 := hR.v1
  have h3 := hR.s1
  have e : nd V S = vn V + S * sn V := rfl
  have e1 : vn V = lv V * V := rfl
  have e2 : sn V = lv V * 2 := rfl
  have l1 : lv V ≤ 4 ∧ 1 ≤ lv V := by unfold Go.Proofs.Ytahabfjngeicmaa.lv; split <;> (try split) <;> (try split) <;> (try split) <;> omega
  have a1 : lv V * V ≤ 4 * 8 := Int.mul_le_mul l1.1 hv (by omega) (by decide)
  have a2 : S * sn V ≤ 8 * 8 := Int.mul_le_mul hs (by omega) (by omega) (by decide)
  omega
theorem PL.hR (h : PL w V S T n q p gb cap rb lb cr cl base gB m g ts vr rs gr) : Rt V S T := h.pg.fm.tm.hR
theorem PL.n96 (h : PL w V S T n q p gb cap rb lb cr cl base gB m g ts vr rs gr) : nN V S ≤ 96 := nN_small h.hR h.v8 h.s8
theorem PL.fi (h : PL w V S T n q p gb cap rb lb cr cl base gB m g ts vr rs gr) : FI V S g (fun _ => 0) ts := h.pg.fm.fi
theorem PL.lL (h : PL w V S T n q p gb cap rb lb cr cl base gB m g ts vr rs gr) (hL : L < n) : (L : Int) < Go.Proofs.Ytahabfjngeicmaa.lv V := by have := h.pg.hn; omega
theorem PL.below (h : PL w V S T n q p gb cap rb lb cr cl base gB m g ts vr rs gr) (hb : Below w.heap.size w w') : PL w' V S T n q p gb cap rb lb cr cl base gB m g ts vr rs gr := ⟨h.pg.below hb, h.lv, h.v8, h.s8⟩
theorem PL.drew (h : PL w V S T n q p gb cap rb lb cr cl base gB m g ts vr rs gr) : PL w.drew V S T n q p gb cap rb lb cr cl base gB m g ts vr rs gr := ⟨h.pg.drew, h.lv, h.v8, h.s8⟩
theorem PL.more (h : PL w V S T n q p gb cap rb lb cr cl base gB m g ts vr rs gr) (hm : m ≤ m') : PL w V S T n q p gb cap rb lb cr cl base gB m' g ts vr rs gr := ⟨h.pg.more hm, h.lv, h.v8, h.s8⟩
/-- Behind a call that reads. -/
theorem PL.read (h : PL w V S T n q p gb cap rb lb cr cl base gB m g ts vr rs gr) (hf : FM w' V S T p gb cap m' g ts) (ho : Only p gb w w') : PL w' V S T n q p gb cap rb lb cr cl base gB m' g ts vr rs gr := ⟨h.pg.tree hf ho, h.lv, h.v8, h.s8⟩
/-- Lists are short. -/
theorem PL.row_len (h : PL w V S T n q p gb cap rb lb cr cl base gB m g ts vr rs gr) (hL : L < n) (hr : r ∈ rs L) : r.length ≤ 96 := by
  obtain ⟨t, ht, e⟩ := (h.lv L hL).has r hr
  have h1 := h.fi.size ht
  have h2 := h.n96
  unfold Tp.size at h1
  rw [e] at h1; omega
theorem PL.rows_len (h : PL w V S T n q p gb cap rb lb cr cl base gB m g ts vr rs gr) (hL : L < n) : (rs L).length ≤ 96 := by
  have hv := h.lv L hL
  have hne : ∀ r ∈ rs L, r ≠ [] := fun r hr e => by
    obtain ⟨u, _, hu⟩ := hv.vert h.hR h.fi hr
    rw [e] at hu; simp at hu
  have h1 : ∀ l : List (List Nat), (∀ r ∈ l, r ≠ []) → l.length ≤ l.flatten.length := by
    intro l
    induction l with
    | nil => simp
    | cons r l ih =>
      intro hl
      have a := ih fun r' hr' => hl r' (List.mem_cons_of_mem _ hr')
      have b := List.length_pos_iff.2 (hl r (List.mem_cons_self ..))
      rw [List.flatten_cons, List.length_append, List.length_cons]; omega
  have h2 := h1 _ hne
  have h3 : (rs L).flatten ⊆ List.range' 1 (nN V S) := fun x hx => by
    obtain ⟨r, hr, hx⟩ := List.mem_flatten.1 hx
    have := hv.node_le h.fi hr hx
    exact List.mem_range'.2 ⟨x - 1, by omega, by omega⟩
  have h4 := hv.nd.length_le_of_subset h3
  have h5 := h.n96
  simp only [List.length_range'] at h4
  omega
end

end Go.Proofs.Ytahabfjngeicmaa
