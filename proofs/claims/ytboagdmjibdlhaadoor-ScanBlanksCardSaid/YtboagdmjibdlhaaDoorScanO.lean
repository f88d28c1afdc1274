/- Walks of ScanParts and ScanBlanks. -/
import Derived.Test.YtboagdmjibdlhaaDoorScanN
namespace Go.Proofs.YtboagdmjibdlhaaDoor
set_option maxRecDepth 100000
open Go.RowKit

/-- Appending the items of a list to a row of the call's own. -/
theorem run_append_toks (w : World) (base B : Nat) (ty : TypeId) (v : Value) (n : Nat) (xs ys : List Value) (hown : w.ownsRow base 20 1 v n xs) (a : Option Addr) (m c : Nat) (hsrc : w.ownsRow B 20 1 (.slice a m c) m ys)
    (h1 : ∀ u ∈ ys, u.oneCell' = true) (hnm : n + m ≤ 1000000) (hbase : base ≤ w.heap.size) :
    ∃ v' w', (Builtin.append_ #[29, 29] ty #[v, .slice a m c]).run Tryd.prog w = .ok v' w' ∧ w'.ownsRow base 20 1 v' (n + m) (xs ++ ys) ∧ Below base w w' := by
  obtain ⟨i0, hi0, hz0, hz1, hz2⟩ := info_parts info_any
  rcases hsrc.2 with ⟨hv, h0⟩ | ⟨g, cap, cur, hv, _, hg, hmc, _, hcs, htake⟩
  · subst h0
    simp only [Value.slice.injEq] at hv
    obtain ⟨rfl, _, rfl⟩ := hv
    have hy : ys = [] := List.length_eq_zero_iff.1 (by have := hsrc.1; omega)
    subst hy
    refine ⟨v, w, run_append_owned_none (P := Tryd.prog) (w := w) base 29 ty 20 i0 1 Tryd.underlying29 hi0 v n xs hown, ?_, Below.refl _ _⟩
    rw [List.append_nil]
    exact hown
  · simp only [Value.slice.injEq, true_and] at hv
    obtain ⟨rfl, rfl⟩ := hv
    obtain ⟨v', w', hr, h2, h3, _, _⟩ := run_append_own_at (P := Tryd.prog) w base 29 ty 20 i0 _ 1 16 Tryd.underlying29 hi0 hz0 hz1 hz2 rfl (by omega) v n xs hown ⟨g, 0, none⟩ m c ys hsrc.1
      (by
        intro j u hj
        have hl := hsrc.1
        have hjm : j < m := by
          rcases Nat.lt_or_ge j ys.length with h | h
          · omega
          · rw [List.getElem?_eq_none h] at hj; cases hj
        rw [Addr.add_lit, Nat.zero_add, Blk.cell hg, ← Array.getElem?_toList, ← List.getElem?_take_of_lt (show j < m * 1 by omega), htake]
        exact hj) h1 (by simp only [maxLen]; omega) (by omega) hbase
    exact ⟨v', w', hr, h2, (Below.refl base w).grown h3 hbase (fun k hk => (hown.lt k hk).1)⟩

/-- The same at an operation that may be guarded. -/
theorem wpList_append_toks {w : World} {ops : Array Oper} {rest : List Oper} {o : Oper} {ac : Act} {Q : Exit → Act → World → Prop} (hgd : Region.wanted o (yielded ops ac.tmps) = true) (s x : Operand)
    (ho : o.op = .call { callee := .builtin .append, args := #[s, x], argTypes := #[29, 29] })
    (base B : Nat) (v : Value) (n : Nat) (xs ys : List Value) (hs : ac.eval s = v) (hown : w.ownsRow base 20 1 v n xs) (a : Option Addr) (m c : Nat) (hx : ac.eval x = .slice a m c) (hsrc : w.ownsRow B 20 1 (.slice a m c) m ys)
    (h1 : ∀ u ∈ ys, u.oneCell' = true) (hnm : n + m ≤ 1000000) (hbase : base ≤ w.heap.size)
    (h : ∀ v' w', w'.ownsRow base 20 1 v' (n + m) (xs ++ ys) → Below base w w' → wpList Tryd.prog ops Q rest (ac.put o.dst v') w') :
    wpList Tryd.prog ops Q (o :: rest) ac w := by
  refine wpList_step fun K hK => ?_
  rw [if_pos hgd]
  obtain ⟨v', w', hr, h2, h3⟩ := run_append_toks w base B o.type v n xs ys hown a m c hsrc h1 hnm hbase
  unfold Oper.wp execOp
  simp only [ho, resolve, invoke, builtin, Sem.run_bind, Sem.run_pure, Result.andThen_ok, List.map_toArray, List.map_cons, List.map_nil, hs, hx, hr]
  exact hK _ _ (h v' w' h2 h3)

theorem vals_one (t : List Atom) (hok : ∀ a ∈ t, TokOk a) : ∀ u ∈ vals t, u.oneCell' = true := by
  intro u hu
  simp only [vals, List.mem_map] at hu
  obtain ⟨a, ha, rfl⟩ := hu
  have := hok a ha
  cases a with
  | flt v => exact absurd this (by simp [TokOk])
  | nil => exact absurd this (by simp [TokOk])
  | num n => rfl
  | txt s => rfl
  | sgn c => rfl

theorem own_cast {w : World} {B : Nat} {v : Value} {n m : Nat} {L : List Value} (h : w.ownsRow B 20 1 v n L) (e : n = m) : w.ownsRow B 20 1 v m L := e ▸ h

theorem bl_append3 (s t : ByteArray) : bl ((s ++ { data := #[32] }) ++ t) = bl s ++ 32 :: bl t := by
  rw [bl_append, bl_append, List.append_assoc]
  rfl

set_option maxHeartbeats 2000000 in
theorem scanParts_walk (s t : ByteArray) (w : World) :
    Calls Tryd.prog 8 #[.string s, .string t] w fun e w' => e = .returned (.bool true) ∧ Below w.heap.size w w' := by
  have HA := Lib.hid lawake_any
  by_cases hl : 200 < s.size
  · go_enter Tryd.func8, Tryd.ntmps8
    go_wp2_with fail
    refine (HA.out _).mono ?_; rintro e w1 ⟨rfl, b1⟩
    go_wp2_with fail
    go_ret
    exact ⟨rfl, b1⟩
  · have l0 : decide ((200 : Int) < (s.size : Int)) = false := decide_eq_false (by omega)
    by_cases hl2 : 200 < t.size
    · go_enter Tryd.func8, Tryd.ntmps8
      go_wp2_with fail
      refine (HA.out _).mono ?_; rintro e w1 ⟨rfl, b1⟩
      go_wp2_with fail
      go_ret
      exact ⟨rfl, b1⟩
    · have l2 : decide ((200 : Int) < (t.size : Int)) = false := decide_eq_false (by omega)
      have hadd1 : ∀ W : World, (Op.stringOp .add s { data := #[32] }).run Tryd.prog W = .ok (.string (s ++ { data := #[32] })) W := fun W => run_string_add_sum W _ _ (by show s.size + 1 ≤ _; omega)
      have hadd1' : ¬ 9223372036854775807 < (s.size + ({ data := #[32] } : ByteArray).size) := by show ¬ _ < s.size + 1; omega
      have hz1 : (s ++ { data := #[32] } : ByteArray).size = s.size + 1 := by rw [← bl_len, bl_append, List.length_append, bl_len]; rfl
      obtain ⟨s1, hs1⟩ : ∃ s1, (s ++ { data := #[32] } : ByteArray) = s1 := ⟨_, rfl⟩
      have hb := bl_append3 s t
      rw [hs1] at hb hadd1 hz1
      have hadd2 : ∀ W : World, (Op.stringOp .add s1 t).run Tryd.prog W = .ok (.string (s1 ++ t)) W := fun W => run_string_add_sum W _ _ (by omega)
      have hadd2' : ¬ 9223372036854775807 < (s1.size + t.size) := by omega
      have hz2 : (s1 ++ t).size = s1.size + t.size := by rw [← bl_len, bl_append, List.length_append, bl_len, bl_len]
      obtain ⟨s2, hs2⟩ : ∃ s2, s1 ++ t = s2 := ⟨_, rfl⟩
      rw [hs2] at hb hadd2 hz2
      have H1 := Lib.hid (fun w => scan_any s w (by omega))
      have H2 := Lib.hid (fun w => scan_any t w (by omega))
      have H3 := Lib.hid (fun w => scan_any s2 w (by omega))
      have hsp := res_split (b := 32) (t := bl t) cls_32 (bl s)
      rw [← hb, bl_len] at hsp
      have c1 := res_count_le s
      have c2 := res_count_le t
      have hok1 := res_tok (bl s)
      have hok2 := res_tok (bl t)
      have hse := res_self (bl s2)
      have hls : (s.size : Int) ≤ 200 := by omega
      have hlt : (t.size : Int) ≤ 200 := by omega
      have hps := (res_errs (bl s)).2.2
      have hpt := (res_errs (bl t)).2.2
      rw [bl_len] at hps hpt
      generalize res (bl s) = R1 at *
      generalize res (bl t) = R2 at *
      generalize res (bl s2) = R3 at *
      obtain ⟨t1, p1, e1⟩ := R1
      obtain ⟨t2, p2, e2⟩ := R2
      simp only [Told] at H1 H2 H3 c1 c2 hok1 hok2 hsp hps hpt
      clear hb hz1 hz2 hl hl2
      by_cases he1 : e1 = 0
      · subst he1
        by_cases he2 : e2 = 0
        · subst he2
          rw [if_pos rfl] at hsp
          have hR3 : R3 = ⟨t1 ++ t2, s.size + 1 + p2, 0⟩ := by rw [hsp]; simp [Res.after]
          subst hR3
          simp only at H3 hse
          clear hsp
          have hlen : (t1 ++ t2).length = t1.length + t2.length := List.length_append
          have HLen := Lib.hid hlen
          rw [hlen] at H3
          by_cases h0 : t1.length + t2.length = 0
          · have z1 : t1.length = 0 := by omega
            have z2 : t2.length = 0 := by omega
            rw [z1] at H1
            rw [z2] at H2
            rw [h0] at H3
            clear hlen h0 z1 z2 c1 c2 HLen
            go_enter Tryd.func8, Tryd.ntmps8
            go_wp2_with fail
            refine (H1.out _).mono ?_; rintro e w1 ⟨a1, k1, rfl, o1, b1⟩
            have B1 := Lib.hid b1; clear b1 o1
            go_wp2_with fail
            refine (H2.out _).mono ?_; rintro e w2 ⟨a2, k2, rfl, o2, b2⟩
            have B2 := Lib.hid (keepB B1.out b2); clear b2 o2 B1
            go_wp2_with fail
            refine (H3.out _).mono ?_; rintro e w3 ⟨a3, k3, rfl, o3, b3⟩
            have B3 := Lib.hid (keepB B2.out b3); clear b3 o3 B2
            go_wp2_with fail
            refine (HA.out _).mono ?_; rintro e w4 ⟨rfl, b4⟩
            have B4 := Lib.hid (keepB B3.out b4); clear B3 b4
            go_wp2_with fail
            go_ret
            exact ⟨rfl, B4.out⟩
          · have z : (((t1.length + t2.length : Nat) : Int) == 0) = false := beq_eq_false_iff_ne.2 (by omega)
            have z' : ((t1.length : Int) + (t2.length : Int) == 0) = false := beq_eq_false_iff_ne.2 (by omega)
            have HE : Hid (∀ (a b : Option Addr) (c c' : Nat) (w : World), (listA a (t1 ++ t2).length c (t1 ++ t2)).Lies w → (listA b (t1 ++ t2).length c' (t1 ++ t2)).Lies w → Calls Tryd.prog 25 #[.iface 29 (.slice a (t1.length + t2.length) c), .iface 29 (.slice b (t1.length + t2.length) c')] w fun e w' => e = .returned (.bool true) ∧ Below w.heap.size w w') := by
              intro a b c c' w h h'
              have := equal_listsA a b c c' (t1 ++ t2) (t1 ++ t2) w h h' (by omega) (by omega)
              rw [hse, hlen] at this
              exact this
            clear hlen h0 hse
            go_enter Tryd.func8, Tryd.ntmps8
            go_wp2_with fail
            refine (H1.out _).mono ?_; rintro e w1 ⟨a1, k1, rfl, o1, b1⟩
            have B1 := Lib.hid b1; have O1 := Lib.hid o1; clear b1 o1
            go_wp2_with fail
            refine (H2.out _).mono ?_; rintro e w2 ⟨a2, k2, rfl, o2, b2⟩
            have B2 := Lib.hid (keepB B1.out b2); have O2 := Lib.hid o2; have O12 := Lib.hid (own_later O1.out b2); clear b2 o2 B1 O1
            go_wp2_with fail
            refine (H3.out _).mono ?_; rintro e w3 ⟨a3, k3, rfl, o3, b3⟩
            have B3 := Lib.hid (keepB B2.out b3); have O22 := Lib.hid (own_later O2.out b3); have O13 := Lib.hid (own_later O12.out b3)
            have L3 := Lib.hid (lies_ownA (t := t1 ++ t2) (by rw [HLen.out]; exact o3))
            clear b3 o3 B2 O2 O12
            have OV : Hid ((w3.alloc (.cells #[] 20)).ownsRow w3.heap.size 20 1 (.slice (some ⟨w3.heap.size, 0, none⟩) 0 0) 0 []) := ⟨rfl, .inr ⟨w3.heap.size, 0, #[], rfl, Nat.le_refl _, heap_alloc_new _ _, Nat.le_refl _, by decide, rfl, rfl⟩⟩
            go_wp2_with (at_builtin; refine wpList_append_toks (by rfl) (.tmp 90) (.tmp 91) rfl w3.heap.size _ _ 0 [] (vals t1) rfl OV.out a1 t1.length k1 rfl (O13.out.alloc _) (vals_one t1 hok1) (by omega) (by simp) ?_)
            intro v' w5 hv1 b5
            obtain ⟨a', n', c', rfl⟩ : ∃ a' n' c', v' = .slice a' n' c' := by
              rcases hv1.2 with ⟨hv, _⟩ | ⟨g, cp, cur, hv, _⟩
              · exact ⟨_, _, _, hv⟩
              · exact ⟨_, _, _, hv⟩
            have b35 : Below w3.heap.size w3 w5 := ((Below.refl w3.heap.size w3).alloc (Nat.le_refl _) _).trans b5
            have B5 := Lib.hid (keepB B3.out b35); have O25 := Lib.hid (own_later O22.out b35); have L5 := Lib.hid (L3.out.keep (Keeps.below b35))
            have V1 := Lib.hid hv1; have BB := Lib.hid b35
            clear hv1 b5 b35 O22 O13 OV
            have L4 := L3; have B4 := B3; clear L3 B3
            go_wp2_with (at_builtin; refine wpList_append_toks (by rfl) (.tmp 92) (.tmp 93) rfl w3.heap.size _ _ t1.length (vals t1) (vals t2) rfl V1.out a2 t2.length k2 rfl O25.out (vals_one t2 hok2) (by omega) BB.out.size ?_)
            intro v2 w6 hv2 b6
            obtain ⟨a6, c6, rfl⟩ : ∃ a6 c6, v2 = .slice a6 (t1.length + t2.length) c6 := by
              rcases hv2.2 with ⟨hv, h0⟩ | ⟨g, cp, cur, hv, _⟩
              · exact ⟨none, 0, by rw [hv, h0]⟩
              · exact ⟨_, _, hv⟩
            have b36 : Below w3.heap.size w3 w6 := BB.out.trans b6
            have b56 : Below w5.heap.size w5 w6 ∨ True := .inr trivial
            have M6 := Lib.hid (lies_ownA (t := t1 ++ t2) (a := a6) (c := c6) (by rw [HLen.out]; simpa [vals] using hv2))
            have L6 := Lib.hid (show (listA a3 (t1 ++ t2).length k3 (t1 ++ t2)).Lies w6 from L4.out.keep (Keeps.below b36))
            have B6 := Lib.hid (keepB B4.out b36)
            clear hv2 b6 b36 b56 B5 O25 L5 V1 BB L4 B4
            go_wp2_with fail
            refine (HE.out _ _ _ _ _ L6.out M6.out).mono ?_; rintro e w7 ⟨rfl, b7⟩
            have B7 := Lib.hid (keepB B6.out b7); clear B6 L6 M6 b7
            go_wp2_with fail
            refine (HA.out _).mono ?_; rintro e w8 ⟨rfl, b8⟩
            have B8 := Lib.hid (keepB B7.out b8); clear B7 b8
            go_wp2_with fail
            go_ret
            exact ⟨rfl, B8.out⟩
        · have n2 : ((e2 : Int) != 0) = true := by rw [bne_iff_ne]; omega
          have hR3 : R3 = ⟨[], s.size + 1 + p2, e2⟩ := by rw [hsp, if_pos rfl]; simp [Res.after, he2]
          subst hR3
          simp only at H3 hse
          clear hsp he2 hse hok1 hok2
          go_enter Tryd.func8, Tryd.ntmps8
          go_wp2_with fail
          refine (H1.out _).mono ?_; rintro e w1 ⟨a1, k1, rfl, o1, b1⟩
          have B1 := Lib.hid b1; clear b1 o1
          go_wp2_with fail
          refine (H2.out _).mono ?_; rintro e w2 ⟨a2, k2, rfl, o2, b2⟩
          have B2 := Lib.hid (keepB B1.out b2); clear b2 o2 B1
          go_wp2_with fail
          refine (H3.out _).mono ?_; rintro e w3 ⟨a3, k3, rfl, o3, b3⟩
          have B3 := Lib.hid (keepB B2.out b3); clear b3 o3 B2
          go_wp2_with fail
          refine (HA.out _).mono ?_; rintro e w4 ⟨rfl, b4⟩
          have B4 := Lib.hid (keepB B3.out b4); clear B3 b4
          go_wp2_with fail
          go_ret
          exact ⟨rfl, B4.out⟩
      · have n1 : ((e1 : Int) != 0) = true := by rw [bne_iff_ne]; omega
        have hR3 : R3 = ⟨t1, p1, e1⟩ := by rw [hsp, if_neg he1]
        subst hR3
        simp only at H3 hse
        clear hsp he1 hse hok1 hok2
        go_enter Tryd.func8, Tryd.ntmps8
        go_wp2_with fail
        refine (H1.out _).mono ?_; rintro e w1 ⟨a1, k1, rfl, o1, b1⟩
        have B1 := Lib.hid b1; clear b1 o1
        go_wp2_with fail
        refine (H2.out _).mono ?_; rintro e w2 ⟨a2, k2, rfl, o2, b2⟩
        have B2 := Lib.hid (keepB B1.out b2); clear b2 o2 B1
        go_wp2_with fail
        refine (H3.out _).mono ?_; rintro e w3 ⟨a3, k3, rfl, o3, b3⟩
        have B3 := Lib.hid (keepB B2.out b3); clear b3 o3 B2
        go_wp2_with fail
        refine (HA.out _).mono ?_; rintro e w4 ⟨rfl, b4⟩
        have B4 := Lib.hid (keepB B3.out b4); clear B3 b4
        go_wp2_with fail
        go_ret
        exact ⟨rfl, B4.out⟩
end Go.Proofs.YtboagdmjibdlhaaDoor
