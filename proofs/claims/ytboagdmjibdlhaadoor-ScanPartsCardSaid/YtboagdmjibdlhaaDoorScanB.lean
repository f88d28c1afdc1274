/- A text's tokens: the plain function, and what holds of it. -/
import Derived.Test.YtboagdmjibdlhaaDoorScanD
import Derived.Lib.ItoaLen
namespace Go.Proofs.YtboagdmjibdlhaaDoor
set_option maxRecDepth 100000
open Go.RowKit

/-- Tokens, where they end, and an error's number. -/
structure Res where
  toks : List Atom
  pos : Nat
  err : Nat

/-- What comes behind some tokens, and some bytes. -/
def Res.after (t : List Atom) (n : Nat) (r : Res) : Res := if r.err = 0 then ⟨t ++ r.toks, n + r.pos, 0⟩ else ⟨[], n + r.pos, r.err⟩

theorem after_after (a b : List Atom) (n m : Nat) (r : Res) : Res.after a n (Res.after b m r) = Res.after (a ++ b) (n + m) r := by
  by_cases h : r.err = 0
  · simp only [Res.after, h, if_true, List.append_assoc, Nat.add_assoc]
  · simp only [Res.after, h, if_false, Nat.add_assoc]
theorem after_err (a : List Atom) (n : Nat) (r : Res) : (Res.after a n r).err = r.err := by
  unfold Res.after; split <;> simp_all
theorem after_zero (r : Res) (h : r.err ≠ 0 → r.toks = []) : Res.after [] 0 r = r := by
  obtain ⟨t, p, e⟩ := r
  unfold Res.after
  split
  · rename_i h0; simp at h0 ⊢; exact h0.symm
  · rename_i h0; simp at h0 h ⊢; first | exact (h h0).symm | exact h h0

/-- A row of digits' number; is it wrong? -/
def valN (x : List UInt8) : Nat := x.foldl (fun n b => 10 * n + (b.toNat - 48)) 0
def badN (x : List UInt8) : Bool := decide (9 < x.length) || (decide (1 < x.length) && (atL x 0 == 48))

/-- The token that a row is, or an error's number. -/
def tokF (k : Nat) (x : List UInt8) : Atom × Nat :=
  if k = 1 then (.nil, 0) else if k = 2 then (if badN x = true then (.nil, 41) else (.num (valN x : Int), 0)) else if k = 3 then (.txt ⟨x.toArray⟩, 0) else if k = 4 then (.sgn (atL x 0 : Int), 0) else (.nil, 40)
def tokK (l : List UInt8) : Atom × Nat := tokF (rowK l) (l.take (rowN l))

theorem rest_lt {l : List UInt8} (h : l ≠ []) : (l.drop (rowN l)).length < l.length := by
  have h0 : 0 < l.length := List.length_pos_iff.2 h
  have h1 := rowN_pos l
  simp only [List.length_drop]
  omega

/-- A text's tokens. -/
def res (l : List UInt8) : Res :=
  if _h : l = [] then ⟨[], 0, 0⟩
  else if (tokK l).2 = 0 then Res.after (if rowK l = 1 then [] else [(tokK l).1]) (rowN l) (res (l.drop (rowN l)))
  else ⟨[], 0, (tokK l).2⟩
termination_by l.length
decreasing_by exact rest_lt _h

theorem res_nil : res [] = ⟨[], 0, 0⟩ := by rw [res]; simp
theorem res_ok {l : List UInt8} (h : l ≠ []) (he : (tokK l).2 = 0) : res l = Res.after (if rowK l = 1 then [] else [(tokK l).1]) (rowN l) (res (l.drop (rowN l))) := by
  conv => lhs; rw [res]
  rw [dif_neg h, if_pos he]
theorem res_bad {l : List UInt8} (h : l ≠ []) (he : (tokK l).2 ≠ 0) : res l = ⟨[], 0, (tokK l).2⟩ := by
  rw [res, dif_neg h, if_neg he]

theorem res_errs (l : List UInt8) : ((res l).err ≠ 0 → (res l).toks = []) ∧ ((res l).err = 0 → (res l).pos = l.length) ∧ (res l).pos ≤ l.length := by
  induction l using len_ind with
  | h0 => rw [res_nil]; exact ⟨fun _ => rfl, fun _ => rfl, Nat.le_refl _⟩
  | h1 l h ih =>
    by_cases he : (tokK l).2 = 0
    · obtain ⟨a, b, c⟩ := ih _ (rest_lt h)
      rw [res_ok h he]
      have hl := rowN_le h
      simp only [List.length_drop] at b c
      unfold Res.after
      split
      · rename_i h0
        have := b h0
        refine ⟨fun h1 => absurd rfl h1, fun _ => ?_, ?_⟩
        · show _ + _ = _; omega
        · show _ + _ ≤ _; omega
      · rename_i h0
        refine ⟨fun _ => rfl, fun h1 => absurd h1 h0, ?_⟩
        show _ + _ ≤ _; omega
    · rw [res_bad h he]
      exact ⟨fun _ => rfl, fun h1 => absurd h1 he, Nat.zero_le _⟩

theorem tokK_blank {l : List UInt8} (h : rowK l = 1) : (tokK l).2 = 0 := by simp [tokK, tokF, h]

/-- A blank goes by. -/
theorem res_blank {l : List UInt8} (h : l ≠ []) (hk : rowK l = 1) : res l = Res.after [] (decL l).2 (res (l.drop (decL l).2)) := by
  have hz := fun l => (res_errs l).1
  rw [res_ok h (tokK_blank hk), if_pos hk]
  have hn : rowN l = (decL l).2 + ext 1 (l.drop (decL l).2) := by unfold rowN; rw [hk]; rfl
  rw [hn]
  generalize hl' : l.drop (decL l).2 = l' at *
  have hd : l.drop ((decL l).2 + ext 1 l') = l'.drop (ext 1 l') := by rw [← hl', List.drop_drop]
  rw [hd]
  by_cases h' : l' = []
  · subst h'
    rw [ext_nil]
    rfl
  · by_cases hk' : rowK l' = 1
    · have e : rowN l' = ext 1 l' := by
        rw [ext_hit h' hk']
        unfold rowN; rw [hk']; rfl
      conv => rhs; rw [res_ok h' (tokK_blank hk'), if_pos hk', after_after, e]
      rfl
    · rw [ext_miss hk']
      rfl

theorem decL_clean {p y : List UInt8} (hp : p ≠ []) (h : Clean y) : decL (p ++ y) = decL p := decL_cases hp (.inl h)
theorem clean_cons {b : UInt8} {t : List UInt8} (h : b.toNat < 128) : Clean (b :: t) := by
  intro c hc
  simp at hc
  subst hc
  exact h
theorem blank_lt {b : UInt8} (h : cls b.toNat = 1) : b.toNat < 128 := by rcases cls_1 h with h | h | h <;> omega
theorem rowK_ascii {b : UInt8} {t : List UInt8} (h : b.toNat < 128) : rowK (b :: t) = cls b.toNat := by unfold rowK; rw [decL_ascii b t h]

theorem ext_append {b : UInt8} {t : List UInt8} {k : Nat} (hb : cls b.toNat = 1) (hk : k ≠ 1) (p : List UInt8) : ext k (p ++ b :: t) = ext k p := by
  induction p using len_ind with
  | h0 =>
    rw [ext_nil, List.nil_append]
    refine ext_miss ?_
    rw [decL_ascii b t (blank_lt hb)]
    show cls b.toNat ≠ k
    omega
  | h1 p h ih =>
    have hd := decL_clean h (clean_cons (t := t) (blank_lt hb))
    have hle := decL_len h
    by_cases hc : cls (decL p).1 = k
    · rw [ext_hit h hc, ext_hit (by simp) (by rw [hd]; exact hc), hd, List.drop_append_of_le_length hle, ih _ (drop_lt h)]
    · rw [ext_miss hc, ext_miss (by rw [hd]; exact hc)]

/-- Two texts, a blank between. -/
theorem res_split {b : UInt8} {t : List UInt8} (hb : cls b.toNat = 1) (p : List UInt8) : res (p ++ b :: t) = if (res p).err = 0 then Res.after (res p).toks (p.length + 1) (res t) else res p := by
  have hlt := blank_lt hb
  induction p using len_ind with
  | h0 =>
    rw [res_nil, if_pos rfl, List.nil_append, res_blank (by simp) (by rw [rowK_ascii hlt]; exact hb), decL_ascii b t hlt]
    rfl
  | h1 p h ih =>
    have hd := decL_clean h (clean_cons (t := t) hlt)
    have hle := decL_len h
    have hne : p ++ b :: t ≠ [] := by simp
    have hK : rowK (p ++ b :: t) = rowK p := by unfold rowK; rw [hd]
    by_cases hk : rowK p = 1
    · rw [res_blank hne (hK.trans hk), res_blank h hk, hd, List.drop_append_of_le_length hle, ih _ (drop_lt h), after_err]
      split
      · rename_i h0
        rw [after_after]
        have : (Res.after [] (decL p).2 (res (p.drop (decL p).2))).toks = (res (p.drop (decL p).2)).toks := by
          unfold Res.after; rw [if_pos h0]; rfl
        rw [this]
        congr 1
        simp only [List.length_drop]; omega
      · rfl
    · have hN : rowN (p ++ b :: t) = rowN p := by
        unfold rowN
        rw [hK, hd, List.drop_append_of_le_length hle, ext_append hb hk]
      have hle' := rowN_le h
      have hT : tokK (p ++ b :: t) = tokK p := by
        unfold tokK
        rw [hK, hN, List.take_append_of_le_length hle']
      by_cases he : (tokK p).2 = 0
      · rw [res_ok hne (by rw [hT]; exact he), res_ok h he, hK, hN, hT, if_neg hk, List.drop_append_of_le_length hle', ih _ (rest_lt h), after_err]
        split
        · rename_i h0
          rw [after_after]
          have : (Res.after [(tokK p).1] (rowN p) (res (p.drop (rowN p)))).toks = [(tokK p).1] ++ (res (p.drop (rowN p))).toks := by
            unfold Res.after; rw [if_pos h0]
          rw [this]
          congr 1
          simp only [List.length_drop]; omega
        · rfl
      · rw [res_bad hne (by rw [hT]; exact he), res_bad h he, hT, if_neg he]

theorem cls_9 : cls (9 : UInt8).toNat = 1 := by decide
theorem cls_32 : cls (32 : UInt8).toNat = 1 := by decide

/-- Tabs go by. -/
theorem res_tabs (t : List UInt8) : ∀ n, res (List.replicate n 9 ++ t) = Res.after [] n (res t)
  | 0 => by
    rw [List.replicate_zero, List.nil_append, after_zero _ (res_errs t).1]
  | n + 1 => by
    have h := res_split (t := List.replicate n 9 ++ t) cls_9 []
    rw [res_nil, if_pos rfl, List.nil_append] at h
    rw [List.replicate_succ, List.cons_append, h, res_tabs t n, after_after]
    congr 1
    simp; omega

/-- Spaces become wider. -/
def wide (n : Nat) (l : List UInt8) : List UInt8 := l.flatMap fun b => if b = 32 then 32 :: List.replicate n 9 else [b]

theorem res_wide (n : Nat) : ∀ (l p : List UInt8), (res (p ++ wide n l)).err = (res (p ++ l)).err ∧ (res (p ++ wide n l)).toks = (res (p ++ l)).toks
  | [], p => ⟨rfl, rfl⟩
  | b :: l, p => by
    by_cases hb : b = 32
    · subst hb
      obtain ⟨h1, h2⟩ := res_wide n l []
      simp only [List.nil_append] at h1 h2
      have e : p ++ wide n (32 :: l) = p ++ 32 :: (List.replicate n 9 ++ wide n l) := by simp [wide]
      rw [e, res_split cls_32, res_split cls_32, res_tabs, after_after]
      by_cases h0 : (res p).err = 0
      · rw [if_pos h0, if_pos h0, after_err, after_err, h1]
        refine ⟨rfl, ?_⟩
        unfold Res.after
        rw [h1]
        split
        · simp [h2]
        · rfl
      · rw [if_neg h0, if_neg h0]; exact ⟨rfl, rfl⟩
    · have e : p ++ wide n (b :: l) = (p ++ [b]) ++ wide n l := by simp [wide, hb]
      have e' : p ++ b :: l = (p ++ [b]) ++ l := by simp
      rw [e, e']
      exact res_wide n l (p ++ [b])

theorem res_tail (p : List UInt8) (n : Nat) : (res (p ++ List.replicate n 9)).err = (res p).err ∧ (res (p ++ List.replicate n 9)).toks = (res p).toks := by
  cases n with
  | zero => simp
  | succ n =>
    rw [List.replicate_succ, res_split cls_9]
    have ht : res (List.replicate n 9) = ⟨[], n, 0⟩ := by
      have := res_tabs [] n
      rw [List.append_nil, res_nil] at this
      rw [this]; simp [Res.after]
    rw [ht]
    by_cases h0 : (res p).err = 0
    · rw [if_pos h0, h0]; simp [Res.after]
    · rw [if_neg h0]; exact ⟨rfl, rfl⟩

/-- Blanks change no token. -/
theorem res_blanks (n : Nat) (l : List UInt8) : (res (List.replicate n 9 ++ (wide n l ++ List.replicate n 9))).err = (res l).err ∧ (res (List.replicate n 9 ++ (wide n l ++ List.replicate n 9))).toks = (res l).toks := by
  obtain ⟨a, b⟩ := res_wide n l []
  obtain ⟨c, d⟩ := res_tail (wide n l) n
  simp only [List.nil_append] at a b
  rw [res_tabs, after_err, c, a]
  refine ⟨rfl, ?_⟩
  unfold Res.after
  rw [c, a]
  split
  · rw [List.nil_append]; exact d.trans b
  · rename_i h0; exact ((res_errs l).1 h0).symm

/-- Which runes are wrong, behind a row. -/
theorem cnt_ext {k : Nat} (hk : k ≠ 0) (l : List UInt8) : (cnt l).2 = (cnt (l.drop (ext k l))).2 := by
  induction l using len_ind with
  | h0 => rw [ext_nil]; rfl
  | h1 l h ih =>
    by_cases hc : cls (decL l).1 = k
    · rw [ext_hit h hc, ← List.drop_drop, ← ih _ (drop_lt h), cnt_step h]
      have : ¬ cls (decL l).1 = 0 := by omega
      simp [this]
    · rw [ext_miss hc]; rfl
theorem cnt_row {l : List UInt8} (h : l ≠ []) (hk : rowK l ≠ 0) : (cnt l).2 = (cnt (l.drop (rowN l))).2 := by
  have h1 : (cnt l).2 = (cnt (l.drop (decL l).2)).2 := by
    rw [cnt_step h]
    have : ¬ cls (decL l).1 = 0 := hk
    simp [this]
  unfold rowN
  split
  · rw [Nat.add_zero]; exact h1
  · rw [← List.drop_drop, h1]; exact cnt_ext hk _

theorem tokF_err {k : Nat} (hk : k ≤ 4) (x : List UInt8) : ((tokF k x).2 = 40 ↔ k = 0) ∧ ((tokF k x).2 = 0 ∨ (tokF k x).2 = 40 ∨ (tokF k x).2 = 41) := by
  unfold tokF
  by_cases h1 : k = 1
  · simp [h1]
  by_cases h2 : k = 2
  · simp only [if_neg h1, if_pos h2]
    split <;> simp <;> omega
  by_cases h3 : k = 3
  · subst h3; simp
  by_cases h4 : k = 4
  · subst h4; simp
  simp [h1, h2, h3, h4]; omega

/-- A wrong rune is told, or what is ahead of it. -/
theorem res_cnt (l : List UInt8) : ((res l).err = 0 → (cnt l).2 = 0) ∧ ((res l).err = 40 → (cnt l).2 ≠ 0) := by
  induction l using len_ind with
  | h0 => rw [res_nil, cnt_nil]; exact ⟨fun _ => rfl, fun h => by cases h⟩
  | h1 l h ih =>
    have ht := tokF_err (cls_le (decL l).1) (l.take (rowN l))
    change ((tokK l).2 = 40 ↔ rowK l = 0) ∧ ((tokK l).2 = 0 ∨ (tokK l).2 = 40 ∨ (tokK l).2 = 41) at ht
    by_cases he : (tokK l).2 = 0
    · have hk : rowK l ≠ 0 := fun h0 => by have := ht.1.2 h0; omega
      obtain ⟨a, b⟩ := ih _ (rest_lt h)
      rw [res_ok h he, after_err, cnt_row h hk]
      exact ⟨a, b⟩
    · rw [res_bad h he]
      refine ⟨fun h0 => absurd h0 he, fun h0 => ?_⟩
      have hk : cls (decL l).1 = 0 := ht.1.1 h0
      rw [cnt_step h, if_pos hk]
      simp
end Go.Proofs.YtboagdmjibdlhaaDoor
