/- Contract of the law's same. -/
import Derived.Test.YtboagdmjibdlhaaDoorScanI
import Derived.Test.YtboagdmjibdlhaaDoorScanK
import Derived.StillTailTactics
namespace Go.Proofs.YtboagdmjibdlhaaDoor
set_option maxRecDepth 100000
open Go.RowKit

/-- What a token may be. -/
def TokOk : Atom → Prop
  | .num n => 0 ≤ n ∧ n ≤ 999999999
  | .txt _ => True
  | .sgn c => 0 ≤ c ∧ c ≤ 255
  | _ => False
theorem TokOk.self {a : Atom} (h : TokOk a) : sameA a a = true := by
  cases a <;> simp [TokOk, sameA] at h ⊢

theorem tokF_ok {k : Nat} (hk : k ≤ 4) (h1 : k ≠ 1) (x : List UInt8) (hd : k = 2 → Digs x) (h : (tokF k x).2 = 0) : TokOk (tokF k x).1 := by
  have hcase : k = 0 ∨ k = 1 ∨ k = 2 ∨ k = 3 ∨ k = 4 := by omega
  rcases hcase with rfl | rfl | rfl | rfl | rfl
  · exact absurd h (by simp [tokF])
  · exact absurd rfl h1
  · have ht : tokF 2 x = if badN x = true then (.nil, 41) else (.num (valN x : Int), 0) := rfl
    rw [ht] at h ⊢
    split
    · rename_i hb; rw [if_pos hb] at h; exact absurd h (by simp)
    · rename_i hb
      have hl : x.length ≤ 9 := by
        simp [badN] at hb; omega
      have := valN_small (hd rfl) (Nat.le_refl 9) hl
      exact ⟨by omega, by omega⟩
  · exact trivial
  · have := atL_lt x 0
    exact ⟨by omega, by omega⟩

theorem res_tok (l : List UInt8) : ∀ a ∈ (res l).toks, TokOk a := by
  induction l using len_ind with
  | h0 => rw [res_nil]; intro a ha; cases ha
  | h1 l h ih =>
    by_cases he : (tokK l).2 = 0
    · rw [res_ok h he]
      unfold Res.after
      split
      · intro a ha
        rcases List.mem_append.1 ha with ha | ha
        · split at ha
          · cases ha
          · rename_i h1
            simp at ha
            subst ha
            exact tokF_ok (cls_le _) h1 _ (fun h2 => digs_row h h2) he
        · exact ih _ (rest_lt h) a ha
      · intro a ha; cases ha
    · rw [res_bad h he]; intro a ha; cases ha
theorem res_self (l : List UInt8) : onesEq (res l).toks (res l).toks = true := by
  rw [onesEq_self, List.all_eq_true]
  exact fun a ha => (res_tok l a ha).self
theorem res_count (l : List UInt8) : (res l).toks.length ≤ (res l).pos := by
  induction l using len_ind with
  | h0 => rw [res_nil]; exact Nat.le_refl _
  | h1 l h ih =>
    by_cases he : (tokK l).2 = 0
    · have := ih _ (rest_lt h)
      have := rowN_pos l
      rw [res_ok h he]
      unfold Res.after
      split
      · show List.length (_ ++ _) ≤ _ + _
        rw [List.length_append]
        split <;> simp <;> omega
      · exact Nat.zero_le _
    · rw [res_bad h he]; exact Nat.le_refl _
theorem res_count_le (s : ByteArray) : (res (bl s)).toks.length ≤ s.size := by
  have h1 := res_count (bl s)
  have h2 := (res_errs (bl s)).2.2
  rw [bl_len] at h2
  omega

theorem rowsT_get : ∀ (t : List Atom) (k j : Nat), j < 3 → k < t.length → (rowsT t)[k * 3 + j]? = (rowT (t.getD k .nil))[j]?
  | [], k, j, hj, hk => by simp at hk
  | a :: t, 0, j, hj, hk => by
    simp only [rowsT, List.flatMap_cons, Nat.zero_mul, Nat.zero_add, List.getD_cons_zero]
    rw [List.getElem?_append_left (by rw [rowT_len]; exact hj)]
  | a :: t, k + 1, j, hj, hk => by
    have ih := rowsT_get t k j hj (by simpa using hk)
    simp only [rowsT] at ih
    simp only [rowsT, List.flatMap_cons, List.getD_cons_succ]
    rw [List.getElem?_append_right (by rw [rowT_len]; omega), rowT_len, show (k + 1) * 3 + j - 3 = k * 3 + j by omega]
    exact ih

/-- The reference's tokens in memory. -/
def LiesT (w : World) (a : Option Addr) (t : List Atom) : Prop :=
  0 < t.length → ∃ g, a = some ⟨g, 0, none⟩ ∧ g < w.heap.size ∧ ∀ k j, k < t.length → j < 3 → w.cell? ⟨g, k * 3 + j, none⟩ = (rowT (t.getD k .nil))[j]?
theorem lies_ownT {w : World} {B : Nat} {a : Option Addr} {c : Nat} {t : List Atom} (h : w.ownsRow B 74 3 (.slice a t.length c) t.length (rowsT t)) : LiesT w a t := by
  intro hn
  rcases h.2 with ⟨hv, h0⟩ | ⟨g, cap, cur, hv, _, hg, hnc, _, hcs, htake⟩
  · omega
  · simp only [Value.slice.injEq, true_and] at hv
    obtain ⟨ha, rfl⟩ := hv
    refine ⟨g, ha, Blk.lt hg, fun k j hk hj => ?_⟩
    rw [Blk.cell hg, ← rowsT_get t k j hj hk, ← htake, List.getElem?_take_of_lt (by omega), Array.getElem?_toList]
theorem LiesT.later {w w' : World} {a : Option Addr} {t : List Atom} (h : LiesT w a t) (hb : Below w.heap.size w w') : LiesT w' a t := fun hn => by
  obtain ⟨g, ha, hg, hc⟩ := h hn
  exact ⟨g, ha, Nat.lt_of_lt_of_le hg hb.size, fun k j hk hj => (hb.cell (p := ⟨g, k * 3 + j, none⟩) hg).trans (hc k j hk hj)⟩

theorem equal_self (a : Atom) (h : TokOk a) (w : World) : Calls Tryd.prog 25 #[a.val, a.val] w fun e w' => e = .returned (.bool true) ∧ Below w.heap.size w w' := by
  have := equal_one a a w
  rw [h.self] at this
  exact this

/-- What holds at each round's head of same. -/
def SameRel (w : World) (t : List Atom) (i : Value) (wr : World) : Prop := ∃ k : Nat, i = .int .i64 k ∧ k ≤ t.length ∧ Below w.heap.size w wr

set_option maxHeartbeats 2000000 in
theorem same_tokens (a b : Option Addr) (c c' : Nat) (t : List Atom) (w : World) (h : (listA a t.length c t).Lies w) (h' : LiesT w b t) (hn : t.length ≤ 1000000) (hok : ∀ x ∈ t, TokOk x) :
    Calls Tryd.prog 19 #[.slice a t.length c, .slice b t.length c'] w fun e w' => e = .returned (.bool true) ∧ Below w.heap.size w w' := by
  have HH := Lib.hid h; clear h
  have HT := Lib.hid h'; clear h'
  have HOk := Lib.hid hok; clear hok
  go_enter Tryd.func19, Tryd.ntmps19
  go_wp2_with fail
  go_loopw [14] (fun i wr => SameRel w t i wr) (fun i _ => t.length - (intOf i).toNat)
  case atStart => exact ⟨0, rfl, Nat.zero_le _, Below.refl _ _⟩
  case round =>
    obtain ⟨k, rfl, hk, B⟩ := hrel
    by_cases hlt : k < t.length
    · obtain ⟨g, cs, rfl, hv, hc⟩ := HH.out.1 (by omega)
      have c0 : wr.cell? ⟨g, k, none⟩ = some (t.getD k .nil).val := by
        rw [B.cell (p := ⟨g, k, none⟩) hv.lt, hv.cell k]; exact hc k hlt
      obtain ⟨g', rfl, hg', hc'⟩ := HT.out (by omega)
      have d0 : wr.cell? ⟨g', k * 3, none⟩ = _ := (B.cell (p := ⟨g', k * 3, none⟩) hg').trans (hc' k 0 hlt (by decide))
      have d1 : wr.cell? ⟨g', k * 3 + 1, none⟩ = _ := (B.cell (p := ⟨g', k * 3 + 1, none⟩) hg').trans (hc' k 1 hlt (by decide))
      have d2 : wr.cell? ⟨g', k * 3 + 2, none⟩ = _ := (B.cell (p := ⟨g', k * 3 + 2, none⟩) hg').trans (hc' k 2 hlt (by decide))
      have hmem : t.getD k .nil ∈ t := by
        rw [List.getD_eq_getElem?_getD, List.getElem?_eq_getElem hlt]; exact List.getElem_mem hlt
      have ht := HOk.out _ hmem
      have gl : g < wr.heap.size := Nat.lt_of_lt_of_le hv.lt B.size
      clear hv hc hc' hmem
      generalize t.getD k .nil = x at *
      have HB := Lib.hid B; clear B
      have i0' : (0 : Int) ≤ (k : Int) := Int.natCast_nonneg _
      have i1' : (k : Int) < (t.length : Int) := by omega
      have HE := Lib.hid (equal_self x ht)
      cases x with
      | flt v => exact absurd ht (by simp [TokOk])
      | nil => exact absurd ht (by simp [TokOk])
      | num n =>
        simp only [rowT, List.getElem?_cons_zero, List.getElem?_cons_succ, Atom.val] at c0 d0 d1 d2 HE
        clear ht
        go_wp2_with fail
        have hba : Below wr.heap.size wr (wr.alloc (.cells #[.int .i64 1, .int .i64 n, .string { data := #[] }] 74)) := (Below.refl _ _).alloc (Nat.le_refl _) _
        have HB1 := Lib.hid (keepB HB.out hba)
        have e0 := cell_later hba c0
        have kx := Blk.new wr 74 #[.int .i64 1, .int .i64 n, .string { data := #[] }]
        clear c0 d0 d1 d2 hba HB
        generalize hW : wr.alloc (.cells #[.int .i64 1, .int .i64 n, .string { data := #[] }] 74) = W at *
        have x1 := kx.cell 1; have x2 := kx.cell 2
        simp at x1 x2
        clear kx hW
        go_still_tail 7, (by kernel_rfl)
        change wpList _ _ _ _ _ (World.drew _)
        go_wp2_with fail
        refine (HE.out _).mono ?_; rintro e w1 ⟨rfl, b1⟩
        have HB2 := Lib.hid (keepB HB1.out (bl_drew b1))
        clear b1 HB1 e0 x1 x2
        go_wp2_with fail
        go_roundw
        case rel => exact ⟨k + 1, by go_num, hlt, HB2.out⟩
        case measure => simp [intOf]; omega
      | txt s =>
        simp only [rowT, List.getElem?_cons_zero, List.getElem?_cons_succ, Atom.val] at c0 d0 d1 d2 HE
        clear ht
        go_wp2_with fail
        have hba : Below wr.heap.size wr (wr.alloc (.cells #[.int .i64 2, .int .i64 0, .string s] 74)) := (Below.refl _ _).alloc (Nat.le_refl _) _
        have HB1 := Lib.hid (keepB HB.out hba)
        have e0 := cell_later hba c0
        have kx := Blk.new wr 74 #[.int .i64 2, .int .i64 0, .string s]
        clear c0 d0 d1 d2 hba HB
        generalize hW : wr.alloc (.cells #[.int .i64 2, .int .i64 0, .string s] 74) = W at *
        have x1 := kx.cell 1; have x2 := kx.cell 2
        simp at x1 x2
        clear kx hW
        go_still_tail 7, (by kernel_rfl)
        change wpList _ _ _ _ _ (World.drew _)
        go_wp2_with fail
        refine (HE.out _).mono ?_; rintro e w1 ⟨rfl, b1⟩
        have HB2 := Lib.hid (keepB HB1.out (bl_drew b1))
        clear b1 HB1 e0 x1 x2
        go_wp2_with fail
        go_roundw
        case rel => exact ⟨k + 1, by go_num, hlt, HB2.out⟩
        case measure => simp [intOf]; omega
      | sgn r =>
        simp only [rowT, List.getElem?_cons_zero, List.getElem?_cons_succ, Atom.val] at c0 d0 d1 d2 HE
        have hr1 : 0 ≤ r := ht.1
        have hr2 : r ≤ 255 := ht.2
        clear ht
        go_wp2_with fail
        have hba : Below wr.heap.size wr (wr.alloc (.cells #[.int .i64 3, .int .i64 r, .string { data := #[] }] 74)) := (Below.refl _ _).alloc (Nat.le_refl _) _
        have HB1 := Lib.hid (keepB HB.out hba)
        have e0 := cell_later hba c0
        have kx := Blk.new wr 74 #[.int .i64 3, .int .i64 r, .string { data := #[] }]
        clear c0 d0 d1 d2 hba HB
        generalize hW : wr.alloc (.cells #[.int .i64 3, .int .i64 r, .string { data := #[] }] 74) = W at *
        have x1 := kx.cell 1; have x2 := kx.cell 2
        simp at x1 x2
        clear kx hW
        go_still_tail 8, (by kernel_rfl)
        change wpList _ _ _ _ _ (World.drew _)
        go_wp2_with fail
        refine (HE.out _).mono ?_; rintro e w1 ⟨rfl, b1⟩
        have HB2 := Lib.hid (keepB HB1.out (bl_drew b1))
        clear b1 HB1 e0 x1 x2
        go_wp2_with fail
        go_roundw
        case rel => exact ⟨k + 1, by go_num, hlt, HB2.out⟩
        case measure => simp [intOf]; omega
    · obtain rfl : k = t.length := by omega
      go_wp2_with fail
      go_ret
      exact ⟨rfl, B⟩
end Go.Proofs.YtboagdmjibdlhaaDoor
