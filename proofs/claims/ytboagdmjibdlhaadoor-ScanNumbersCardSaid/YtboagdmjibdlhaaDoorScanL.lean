/- Tokens' texts have these tokens again. -/
import Derived.Test.YtboagdmjibdlhaaDoorScanJ
namespace Go.Proofs.YtboagdmjibdlhaaDoor
set_option maxRecDepth 100000
open Go.RowKit

theorem cls_dig {b : UInt8} (h : 48 ≤ b.toNat ∧ b.toNat ≤ 57) : cls b.toNat = 2 := by
  unfold cls
  rw [if_neg (by omega), if_pos (by omega)]

theorem ext_digs : ∀ (x : List UInt8), Digs x → ext 2 x = x.length
  | [], _ => ext_nil 2
  | b :: r, h => by
    have hb := h b (List.mem_cons_self ..)
    have e := decL_ascii b r (by omega)
    rw [ext_hit (by simp) (by rw [e]; exact cls_dig hb), e]
    simp only [List.drop_succ_cons, List.drop_zero, List.length_cons]
    rw [ext_digs r fun c hc => h c (List.mem_cons_of_mem _ hc)]
    omega

theorem res_digs {x : List UInt8} (hx : x ≠ []) (h : Digs x) : res x = if badN x = true then ⟨[], 0, 41⟩ else ⟨[.num (valN x : Int)], x.length, 0⟩ := by
  have hk : rowK x = 2 := by
    cases x with
    | nil => exact absurd rfl hx
    | cons b r =>
      have hb := h b (List.mem_cons_self ..)
      rw [rowK_ascii (by omega)]
      exact cls_dig hb
  have hn : rowN x = x.length := by rw [row_ext hx hk (by decide), ext_digs x h]
  have ht : tokK x = if badN x = true then (.nil, 41) else (.num (valN x : Int), 0) := by
    unfold tokK
    rw [hk, hn, List.take_length]
    rfl
  split
  · rename_i hb
    rw [if_pos hb] at ht
    rw [res_bad hx (by rw [ht]; decide), ht]
  · rename_i hb
    rw [if_neg hb] at ht
    rw [res_ok hx (by rw [ht]), ht, hk, hn, List.drop_length, res_nil]
    simp [Res.after]

theorem dec_small {u : Nat} (h : u < 10) : Lib.decDigits u = [UInt8.ofNat (48 + u)] := by rw [Lib.decDigits, dif_pos h]
theorem dec_big {u : Nat} (h : ¬ u < 10) : Lib.decDigits u = Lib.decDigits (u / 10) ++ [UInt8.ofNat (48 + u % 10)] := by rw [Lib.decDigits, dif_neg h]
theorem digit_toNat {u : Nat} (h : u < 10) : (UInt8.ofNat (48 + u)).toNat = 48 + u := by simp [UInt8.toNat_ofNat']; omega

theorem dec_all : ∀ (k u : Nat), u ≤ k → Digs (Lib.decDigits u) ∧ valN (Lib.decDigits u) = u ∧ Lib.decDigits u ≠ [] ∧ (0 < u → atL (Lib.decDigits u) 0 ≠ 48) := by
  intro k
  induction k with
  | zero =>
    intro u hu
    have : u = 0 := by omega
    subst this
    rw [dec_small (by decide)]
    refine ⟨fun b hb => ?_, by decide, by simp, fun h => absurd h (by decide)⟩
    simp at hb
    subst hb
    decide
  | succ k ih =>
    intro u hu
    by_cases h : u < 10
    · rw [dec_small h]
      have hd := digit_toNat h
      refine ⟨fun b hb => ?_, ?_, by simp, fun h0 => ?_⟩
      · simp only [List.mem_singleton] at hb
        subst hb
        rw [hd]; omega
      · simp only [valN, List.foldl_cons, List.foldl_nil]; rw [hd]; omega
      · show (UInt8.ofNat (48 + u)).toNat ≠ 48
        rw [hd]; omega
    · obtain ⟨a, b, c, d⟩ := ih (u / 10) (by omega)
      have hd := digit_toNat (Nat.mod_lt u (by decide : 10 > 0))
      rw [dec_big h]
      refine ⟨fun x hx => ?_, ?_, by simp, fun h0 => ?_⟩
      · rcases List.mem_append.1 hx with hx | hx
        · exact a x hx
        · simp only [List.mem_singleton] at hx
          subst hx
          rw [hd]; omega
      · rw [valN_more, b, hd]; omega
      · rw [atL_append (List.length_pos_iff.2 c)]
        exact d (by omega)
theorem dec_len : ∀ (k u : Nat), u < 10 ^ (k + 1) → (Lib.decDigits u).length ≤ k + 1 := by
  intro k
  induction k with
  | zero => intro u hu; rw [dec_small (by simpa using hu)]; simp
  | succ k ih =>
    intro u hu
    by_cases h : u < 10
    · rw [dec_small h]; simp
    · rw [dec_big h, List.length_append]
      have := ih (u / 10) (by rw [Nat.pow_succ] at hu; omega)
      simp; omega
theorem dec_len1 {u : Nat} (h : 1 < (Lib.decDigits u).length) : 0 < u := by
  rcases Nat.eq_zero_or_pos u with h0 | h0
  · subst h0; rw [dec_small (by decide)] at h; simp at h
  · exact h0

theorem res_dec (u : Nat) (h : u ≤ 999999999) : res (Lib.decDigits u) = ⟨[.num (u : Int)], (Lib.decDigits u).length, 0⟩ := by
  obtain ⟨a, b, c, d⟩ := dec_all u u (Nat.le_refl _)
  have hl := dec_len 8 u (by have : (10 : Nat) ^ 9 = 1000000000 := by decide
                             omega)
  have hb : ¬ badN (Lib.decDigits u) = true := by
    simp only [badN, Bool.or_eq_true, Bool.and_eq_true, decide_eq_true_eq, beq_iff_eq]
    rintro (h9 | ⟨h1, h2⟩)
    · omega
    · exact d (dec_len1 h1) h2
  rw [res_digs c a, if_neg hb, b]

/-- A nought ahead. -/
theorem res_nought (u : Nat) : res (120 :: 32 :: 48 :: Lib.decDigits u) = ⟨[], 2, 41⟩ := by
  obtain ⟨a, b, c, d⟩ := dec_all u u (Nat.le_refl _)
  have h1 : res (48 :: Lib.decDigits u) = ⟨[], 0, 41⟩ := by
    have hd : Digs (48 :: Lib.decDigits u) := by
      intro x hx
      rcases List.mem_cons.1 hx with rfl | hx
      · decide
      · exact a x hx
    have hb : badN (48 :: Lib.decDigits u) = true := by
      have : 0 < (Lib.decDigits u).length := List.length_pos_iff.2 c
      simp only [badN, Bool.or_eq_true, Bool.and_eq_true, decide_eq_true_eq, beq_iff_eq]
      exact .inr ⟨by simp; omega, rfl⟩
    rw [res_digs (by simp) hd, if_pos hb]
  have hx : res [120] = ⟨[.txt ⟨#[120]⟩], 1, 0⟩ := (res_fuel 1 _ (by decide)).trans (by kernel_rfl)
  have h := res_split (t := 48 :: Lib.decDigits u) cls_32 [120]
  rw [hx, if_pos rfl, h1] at h
  exact h

theorem ext_take (k : Nat) (l : List UInt8) : ext k (l.take (ext k l)) = ext k l := by
  induction l using len_ind with
  | h0 => rw [List.take_nil]
  | h1 l h ih =>
    by_cases hc : cls (decL l).1 = k
    · have hp := decL_pos l
      have hle := ext_le k l
      have he := ext_hit h hc
      have hne : l.take (ext k l) ≠ [] := by
        intro h0
        have := congrArg List.length h0
        rw [List.length_take, List.length_nil] at this
        have := decL_len h
        omega
      have hd : decL l = decL (l.take (ext k l)) := by
        have := decL_cases (p := l.take (ext k l)) (x := l.drop (ext k l)) hne (.inr (by rw [List.take_append_drop, List.length_take]; omega))
        rw [List.take_append_drop] at this
        exact this
      rw [ext_hit hne (by rw [← hd]; exact hc), ← hd, he, List.drop_take, Nat.add_sub_cancel_left, ih _ (drop_lt h)]
    · rw [ext_miss hc, List.take_zero, ext_nil]

theorem res_txt {l : List UInt8} (h : l ≠ []) (hk : rowK l = 3) : res (l.take (rowN l)) = ⟨[.txt ⟨(l.take (rowN l)).toArray⟩], (l.take (rowN l)).length, 0⟩ := by
  have hn := row_ext h hk (by decide)
  have hp := rowN_pos l
  have hle := rowN_le h
  have hlen : (l.take (rowN l)).length = rowN l := by rw [List.length_take]; omega
  have hne : l.take (rowN l) ≠ [] := by
    intro h0
    rw [h0] at hlen
    simp at hlen
    omega
  have he := ext_hit h hk
  have hd : decL l = decL (l.take (rowN l)) := by
    have := decL_cases (p := l.take (rowN l)) (x := l.drop (rowN l)) hne (.inr (by rw [List.take_append_drop, hlen]; omega))
    rw [List.take_append_drop] at this
    exact this
  have hk' : rowK (l.take (rowN l)) = 3 := by unfold rowK; rw [← hd]; exact hk
  have hn' : rowN (l.take (rowN l)) = (l.take (rowN l)).length := by
    rw [row_ext hne hk' (by decide), hn, ext_take, ← hn, hlen]
  have ht : tokK (l.take (rowN l)) = (.txt ⟨(l.take (rowN l)).toArray⟩, 0) := by
    unfold tokK
    rw [hk', hn', List.take_length]
    rfl
  rw [res_ok hne (by rw [ht]), ht, hk', hn', List.drop_length, res_nil]
  simp [Res.after]

/-- Its text has it again. -/
def Good (a : Atom) : Prop := res (bl (textA a)) = ⟨[a], (bl (textA a)).length, 0⟩

theorem good_num {n : Int} (h0 : 0 ≤ n) (h1 : n ≤ 999999999) : Good (.num n) := by
  obtain ⟨u, rfl⟩ := Int.eq_ofNat_of_zero_le h0
  have e : bl (textA (.num (u : Int))) = Lib.decDigits u := by
    show bl ⟨(Lib.itoa (u : Int)).toArray⟩ = _
    rw [bl_of]
    simp [Lib.itoa]
  unfold Good
  rw [e]
  exact res_dec u (by omega)

theorem sgn_one {c : Nat} (h : c ≤ 126) : bl (Utf8.encode (c : Int)) = [UInt8.ofNat c] := by
  have hv : Utf8.valid (c : Int) = true := by
    simp only [Utf8.valid, Bool.or_eq_true, Bool.and_eq_true, decide_eq_true_eq]
    left; omega
  have hc : c < 128 := by omega
  simp only [Utf8.encode, hv, if_true, Int.toNat_natCast, hc]
  rfl
theorem good_sgn {c : Nat} (h : cls c = 4) : Good (.sgn (c : Int)) := by
  have hc := cls_4 h
  have e : bl (textA (.sgn (c : Int))) = [UInt8.ofNat c] := by
    simp only [textA]
    exact sgn_one hc.2
  have hb : (UInt8.ofNat c).toNat = c := by simp [UInt8.toNat_ofNat']; omega
  have hk : rowK [UInt8.ofNat c] = 4 := by rw [rowK_ascii (by omega), hb]; exact h
  have hd := decL_ascii (UInt8.ofNat c) [] (by omega)
  unfold Good
  rw [e, res_sign (by simp) hk, hd, hb]
  simp [res_nil, Res.after]

theorem res_good (l : List UInt8) : ∀ a ∈ (res l).toks, Good a := by
  induction l using len_ind with
  | h0 => rw [res_nil]; intro a ha; cases ha
  | h1 l h ih =>
    by_cases he : (tokK l).2 = 0
    · have hstep : ∀ a, a ∈ (if rowK l = 1 then [] else [(tokK l).1]) → Good a := by
        intro a ha
        split at ha
        · cases ha
        · rename_i h1
          simp only [List.mem_singleton] at ha
          subst ha
          have hk := cls_le (decL l).1
          change rowK l ≤ 4 at hk
          have hcase : rowK l = 0 ∨ rowK l = 2 ∨ rowK l = 3 ∨ rowK l = 4 := by omega
          rcases hcase with hk | hk | hk | hk
          · rw [tokK, hk] at he; exact absurd he (by simp [tokF])
          · have ht := tokF_ok (k := 2) (by decide) (by decide) (l.take (rowN l)) (fun _ => digs_row h hk)
            have hf : tokF 2 (l.take (rowN l)) = if badN (l.take (rowN l)) = true then (.nil, 41) else (.num (valN (l.take (rowN l)) : Int), 0) := rfl
            rw [tokK, hk] at he ⊢
            have ht := ht he
            rw [hf] at he ht ⊢
            split
            · rename_i hb; rw [if_pos hb] at he; exact absurd he (by simp)
            · rename_i hb
              rw [if_neg hb] at ht
              exact good_num ht.1 ht.2
          · rw [tokK, hk]
            show res (bl ⟨(l.take (rowN l)).toArray⟩) = ⟨[.txt ⟨(l.take (rowN l)).toArray⟩], (bl ⟨(l.take (rowN l)).toArray⟩).length, 0⟩
            rw [bl_of]
            exact res_txt h hk
          · cases l with
            | nil => exact absurd rfl h
            | cons b r =>
              have hd := cls_4 hk
              have hb : b.toNat < 128 := by
                rcases Nat.lt_or_ge b.toNat 128 with h' | h'
                · exact h'
                · have := decL_high b r h'; omega
              have e := decL_ascii b r hb
              have hn : rowN (b :: r) = 1 := by unfold rowN; rw [hk, e]; rfl
              rw [tokK, hk, hn]
              show Good (.sgn (b.toNat : Int))
              rw [rowK_ascii hb] at hk
              exact good_sgn hk
      rw [res_ok h he]
      unfold Res.after
      split
      · intro a ha
        rcases List.mem_append.1 ha with ha | ha
        · exact hstep a ha
        · exact ih _ (rest_lt h) a ha
      · intro a ha; cases ha
    · rw [res_bad h he]; intro a ha; cases ha

/-- Tokens that are joined are told again. -/
theorem res_join : ∀ (t : List Atom), (∀ a ∈ t, Good a) → res (joinB false t) = ⟨t, (joinB false t).length, 0⟩
  | [], _ => res_nil
  | [a], h => by
    have := h a (List.mem_cons_self ..)
    simp only [joinB, List.append_nil]
    simpa [Good] using this
  | a :: b :: t, h => by
    have ha := h a (List.mem_cons_self ..)
    have ih := res_join (b :: t) fun c hc => h c (List.mem_cons_of_mem _ hc)
    have e : joinB false (a :: b :: t) = bl (textA a) ++ 32 :: joinB false (b :: t) := by simp [joinB]
    rw [e, res_split cls_32, ha, if_pos rfl, ih]
    simp [Res.after]
    omega
end Go.Proofs.YtboagdmjibdlhaaDoor
