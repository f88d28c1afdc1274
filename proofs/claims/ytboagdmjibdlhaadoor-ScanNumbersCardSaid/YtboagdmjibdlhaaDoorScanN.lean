/- Walks of ScanJoins and ScanNumbers. -/
import Derived.Test.YtboagdmjibdlhaaDoorScanM
namespace Go.Proofs.YtboagdmjibdlhaaDoor
set_option maxRecDepth 100000
open Go.RowKit

theorem row_len (l : List UInt8) : (l.take (rowN l)).length ≤ l.length := by rw [List.length_take]; omega
theorem enc_len (c : Int) : (bl (Utf8.encode c)).length ≤ 9 := by
  have : ∀ b : ByteArray, bl b = b.data.toList := fun _ => rfl
  unfold Utf8.encode
  simp only [this]
  repeat' split
  all_goals simp
theorem txt_len (l : List UInt8) : ∀ a ∈ (res l).toks, (bl (textA a)).length ≤ l.length + 9 := by
  induction l using len_ind with
  | h0 => rw [res_nil]; intro a ha; cases ha
  | h1 l h ih =>
    have hok := res_tok l
    by_cases he : (tokK l).2 = 0
    · rw [res_ok h he] at hok ⊢
      unfold Res.after at hok ⊢
      split
      · rename_i h0
        rw [if_pos h0] at hok
        intro a ha
        have hoka := hok a ha
        rcases List.mem_append.1 ha with ha | ha
        · split at ha
          · cases ha
          · simp only [List.mem_singleton] at ha
            have hrow := row_len l
            cases a with
            | num n =>
              obtain ⟨n0, n1⟩ := hoka
              obtain ⟨u, rfl⟩ := Int.eq_ofNat_of_zero_le n0
              have e : bl (textA (.num (u : Int))) = Lib.decDigits u := by
                show bl ⟨(Lib.itoa (u : Int)).toArray⟩ = _
                rw [bl_of]
                simp [Lib.itoa]
              have := dec_len 8 u (by have : (10 : Nat) ^ 9 = 1000000000 := by decide
                                      omega)
              rw [e]; omega
            | sgn c =>
              have := enc_len c
              simp only [textA]
              omega
            | txt s =>
              have hs : bl s = l.take (rowN l) := by
                have hk := cls_le (decL l).1
                change rowK l ≤ 4 at hk
                have hcase : rowK l = 0 ∨ rowK l = 1 ∨ rowK l = 2 ∨ rowK l = 3 ∨ rowK l = 4 := by omega
                rw [tokK] at ha
                rcases hcase with hk | hk | hk | hk | hk
                · rw [hk] at ha; simp [tokF] at ha
                · rw [hk] at ha; simp [tokF] at ha
                · rw [hk] at ha
                  have hf : tokF 2 (l.take (rowN l)) = if badN (l.take (rowN l)) = true then (.nil, 41) else (.num (valN (l.take (rowN l)) : Int), 0) := rfl
                  rw [hf] at ha
                  split at ha <;> simp at ha
                · rw [hk] at ha
                  have hf : tokF 3 (l.take (rowN l)) = (.txt ⟨(l.take (rowN l)).toArray⟩, 0) := rfl
                  rw [hf] at ha
                  simp only [Atom.txt.injEq] at ha
                  rw [ha, bl_of]
                · rw [hk] at ha; simp [tokF] at ha
              simp only [textA]
              rw [hs]; omega
            | flt v => exact absurd hoka (by simp [TokOk])
            | nil => exact absurd hoka (by simp [TokOk])
        · have := ih _ (rest_lt h) a ha
          have := rest_lt h
          omega
      · intro a ha; cases ha
    · rw [res_bad h he]; intro a ha; cases ha
theorem joinB_len (m : Nat) : ∀ (t : List Atom) (bh : Bool), (∀ a ∈ t, (bl (textA a)).length ≤ m) → (joinB bh t).length ≤ t.length * (m + 1)
  | [], bh, _ => by simp [joinB]
  | a :: t, bh, h => by
    have ih := joinB_len m t true fun b hb => h b (List.mem_cons_of_mem _ hb)
    have ha := h a (List.mem_cons_self ..)
    simp only [joinB, List.length_append, List.length_cons, Nat.succ_mul]
    split <;> simp <;> omega

theorem join_small (s : ByteArray) (hs : s.size ≤ 300) : (joinB false (res (bl s)).toks).length ≤ 100000 := by
  have h1 := joinB_len (s.size + 9) (res (bl s)).toks false (fun a ha => by have := txt_len (bl s) a ha; rw [bl_len] at this; exact this)
  have h2 := res_count_le s
  have h3 : (res (bl s)).toks.length * (s.size + 9 + 1) ≤ 300 * 310 := Nat.mul_le_mul (by omega) (by omega)
  omega

set_option maxHeartbeats 1000000 in
theorem scanJoins_walk (s : ByteArray) (w : World) (hP : Pows w) :
    Calls Tryd.prog 7 #[.string s] w fun e w' => e = .returned (.bool true) ∧ Below w.heap.size w w' := by
  have HA := Lib.hid lawake_any
  by_cases hl : 300 < s.size
  · clear hP
    go_enter Tryd.func7, Tryd.ntmps7
    go_wp2_with fail
    refine (HA.out _).mono ?_; rintro e w1 ⟨rfl, b1⟩
    go_wp2_with fail
    go_ret
    exact ⟨rfl, b1⟩
  · have H1 := Lib.hid (fun w => scan_any s w (by omega))
    have hc := res_count_le s
    have hj := join_small s (by omega)
    have hT := res_tok (bl s)
    have hE := res_self (bl s)
    have hG := res_join _ (res_good (bl s))
    have hs : (s.size : Int) ≤ 300 := by omega
    generalize hR : res (bl s) = R at *
    clear hR
    obtain ⟨t, p, e⟩ := R
    simp only [Told] at H1 hc hj hT hE hG
    by_cases he : e = 0
    · subst he
      obtain ⟨x, hx⟩ : ∃ x : ByteArray, (⟨(joinB false t).toArray⟩ : ByteArray) = x := ⟨_, rfl⟩
      have hbx : bl x = joinB false t := by rw [← hx, bl_of]
      have hxs : x.size = (joinB false t).length := by rw [← bl_len, hbx]
      have H2 := Lib.hid (fun w => scan_any x w (by omega))
      rw [hbx, hG] at H2
      simp only [Told, ← hxs] at H2
      have HJ : Hid (∀ (a : Option Addr) (c : Nat) (w : World), (listA a t.length c t).Lies w → Pows w → Calls Tryd.prog 24 #[.slice a t.length c] w fun e w' => e = .returned (.string x) ∧ Below w.heap.size w w') := by
        intro a c w h hp
        have := join_any a c t w h (by omega) (fun y hy => by
          have := hT y hy
          cases y with
          | num n => exact .inr ⟨by have := this.1; omega, by have := this.2; omega, hp⟩
          | _ => trivial) (by omega)
        rw [hx] at this
        exact this
      have HE : Hid (∀ (a b : Option Addr) (c c' : Nat) (w : World), (listA a t.length c t).Lies w → (listA b t.length c' t).Lies w → Calls Tryd.prog 25 #[.iface 29 (.slice a t.length c), .iface 29 (.slice b t.length c')] w fun e w' => e = .returned (.bool true) ∧ Below w.heap.size w w') := by
        intro a b c c' w h h'
        have := equal_listsA a b c c' t t w h h' (by omega) (by omega)
        rw [hE] at this
        exact this
      have HP := Lib.hid hP
      clear hP hx hbx hxs hG hT hE hj
      by_cases h0 : t.length = 0
      · have h0' : ((t.length : Int) == 0) = true := beq_iff_eq.2 (by omega)
        clear h0
        go_enter Tryd.func7, Tryd.ntmps7
        go_wp2_with fail
        refine (H1.out _).mono ?_; rintro e w1 ⟨a, c, rfl, o1, b1⟩
        have B1 := Lib.hid b1; have L1 := Lib.hid (lies_ownA o1); have P1 := Lib.hid (HP.out.below b1); clear b1 o1 HP
        go_wp2_with fail
        refine (HJ.out _ _ _ L1.out P1.out).mono ?_; rintro e w2 ⟨rfl, b2⟩
        have B2 := Lib.hid (keepB B1.out b2); have L2 := Lib.hid (L1.out.keep (Keeps.below b2)); clear b2 B1 L1 P1
        go_wp2_with fail
        refine (H2.out _).mono ?_; rintro e w3 ⟨a3, c3, rfl, o3, b3⟩
        have B3 := Lib.hid (keepB B2.out b3); clear b3 o3 B2 L2
        go_wp2_with fail
        refine (HA.out _).mono ?_; rintro e w4 ⟨rfl, b4⟩
        have B4 := Lib.hid (keepB B3.out b4); clear B3 b4
        go_wp2_with fail
        go_ret
        exact ⟨rfl, B4.out⟩
      · have h0' : ((t.length : Int) == 0) = false := beq_eq_false_iff_ne.2 (by omega)
        clear h0
        go_enter Tryd.func7, Tryd.ntmps7
        go_wp2_with fail
        refine (H1.out _).mono ?_; rintro e w1 ⟨a, c, rfl, o1, b1⟩
        have B1 := Lib.hid b1; have L1 := Lib.hid (lies_ownA o1); have P1 := Lib.hid (HP.out.below b1); clear b1 o1 HP
        go_wp2_with fail
        refine (HJ.out _ _ _ L1.out P1.out).mono ?_; rintro e w2 ⟨rfl, b2⟩
        have B2 := Lib.hid (keepB B1.out b2); have L2 := Lib.hid (L1.out.keep (Keeps.below b2)); clear b2 B1 L1 P1
        go_wp2_with fail
        refine (H2.out _).mono ?_; rintro e w3 ⟨a3, c3, rfl, o3, b3⟩
        have B3 := Lib.hid (keepB B2.out b3); have L3 := Lib.hid (L2.out.keep (Keeps.below b3)); have M3 := Lib.hid (lies_ownA o3); clear b3 o3 B2 L2
        go_wp2_with fail
        refine (HE.out _ _ _ _ _ L3.out M3.out).mono ?_; rintro e w5 ⟨rfl, b5⟩
        have B5 := Lib.hid (keepB B3.out b5); clear B3 L3 M3 b5
        go_wp2_with fail
        refine (HA.out _).mono ?_; rintro e w4 ⟨rfl, b4⟩
        have B4 := Lib.hid (keepB B5.out b4); clear B5 b4
        go_wp2_with fail
        go_ret
        exact ⟨rfl, B4.out⟩
    · have e0 : ((e : Int) != 0) = true := by rw [bne_iff_ne]; omega
      clear hP hG hT hE hj he
      go_enter Tryd.func7, Tryd.ntmps7
      go_wp2_with fail
      refine (H1.out _).mono ?_; rintro e w1 ⟨a, c, rfl, o1, b1⟩
      have B1 := Lib.hid b1; clear b1 o1
      go_wp2_with fail
      refine (HA.out _).mono ?_; rintro e w4 ⟨rfl, b4⟩
      have B4 := Lib.hid (keepB B1.out b4); clear B1 b4
      go_wp2_with fail
      go_ret
      exact ⟨rfl, B4.out⟩

theorem bl_append (a b : ByteArray) : bl (a ++ b) = bl a ++ bl b := by
  simp [bl, ByteArray.data_append]

set_option maxHeartbeats 1000000 in
theorem scanNumbers_walk (n : Int) (h0 : -9223372036854775808 ≤ n) (h1 : n ≤ 9223372036854775807) (w : World) (hP : Pows w) :
    Calls Tryd.prog 10 #[.int .i64 n] w fun e w' => e = .returned (.bool true) ∧ Below w.heap.size w w' := by
  have HA := Lib.hid lawake_any
  by_cases hn : n < 0
  · clear hP
    go_enter Tryd.func10, Tryd.ntmps10
    go_wp2_with fail
    refine (HA.out _).mono ?_; rintro e w1 ⟨rfl, b1⟩
    go_wp2_with fail
    go_ret
    exact ⟨rfl, b1⟩
  · have n0 : decide (n < 0) = false := decide_eq_false hn
    by_cases hm : 999999999 < n
    · clear hP
      go_enter Tryd.func10, Tryd.ntmps10
      go_wp2_with fail
      refine (HA.out _).mono ?_; rintro e w1 ⟨rfl, b1⟩
      go_wp2_with fail
      go_ret
      exact ⟨rfl, b1⟩
    · have n1 : decide (999999999 < n) = false := decide_eq_false hm
      obtain ⟨u, rfl⟩ := Int.eq_ofNat_of_zero_le (show 0 ≤ n by omega)
      obtain ⟨x, hx⟩ : ∃ x : ByteArray, (⟨(Lib.decDigits u).toArray⟩ : ByteArray) = x := ⟨_, rfl⟩
      have hbx : bl x = Lib.decDigits u := by rw [← hx, bl_of]
      have hxl : (Lib.decDigits u).length ≤ 9 := dec_len 8 u (by have : (10 : Nat) ^ 9 = 1000000000 := by decide
                                                                 omega)
      have hxs : x.size = (Lib.decDigits u).length := by rw [← bl_len, hbx]
      have htx : textA (.num (u : Int)) = x := by
        rw [← hx]
        show (⟨(Lib.itoa (u : Int)).toArray⟩ : ByteArray) = _
        simp [Lib.itoa]
      have HS : Hid (∀ (w : World), Pows w → Calls Tryd.prog 13 #[.iface 3 (.int .i64 (u : Int))] w fun e w' => e = .returned (.string x) ∧ Below w.heap.size w w') := by
        intro w hp
        have := say_atomA (.num (u : Int)) w (.inr ⟨by omega, by omega, hp⟩) (by rw [htx, hbx]; omega)
        rw [htx] at this
        exact this
      have H1 := Lib.hid (fun w => scan_any x w (by omega))
      rw [hbx, res_dec u (by omega)] at H1
      simp only [Told, ← hxs] at H1
      have hy : bl ({ data := #[120, 32, 48] } ++ x) = 120 :: 32 :: 48 :: Lib.decDigits u := by rw [bl_append, hbx]; rfl
      have hys : (({ data := #[120, 32, 48] } : ByteArray) ++ x).size ≤ 1000000 := by
        rw [← bl_len, hy]; simp; omega
      have H2 := Lib.hid (fun w => scan_any ({ data := #[120, 32, 48] } ++ x) w hys)
      rw [hy, res_nought] at H2
      simp only [Told] at H2
      have hadd : ∀ W : World, (Op.stringOp .add { data := #[120, 32, 48] } x).run Tryd.prog W = .ok (.string ({ data := #[120, 32, 48] } ++ x)) W := fun W => run_string_add_sum W _ _ (by show 3 + x.size ≤ _; omega)
      have hadd' : ¬ 9223372036854775807 < (({ data := #[120, 32, 48] } : ByteArray).size + x.size) := by show ¬ _ < 3 + x.size; omega
      have HE := Lib.hid (equal_self (.num (u : Int)) ⟨by omega, by omega⟩)
      simp only [Atom.val] at HE
      have HP := Lib.hid hP
      clear hP hx hbx hxl htx hy hys hxs hn hm h0 h1
      go_enter Tryd.func10, Tryd.ntmps10
      go_wp2_with fail
      refine (HS.out _ HP.out).mono ?_; rintro e w1 ⟨rfl, b1⟩
      have B1 := Lib.hid b1; clear b1 HP
      go_wp2_with fail
      refine (H1.out _).mono ?_; rintro e w2 ⟨a, c, rfl, o2, b2⟩
      have B2 := Lib.hid (keepB B1.out b2)
      obtain ⟨g, cs, rfl, hv, hc⟩ := (lies_ownA (t := [.num (u : Int)]) o2).1 (by simp)
      have c0 : w2.cell? ⟨g, 0, none⟩ = some (.iface 3 (.int .i64 (u : Int))) := by rw [hv.cell 0]; exact hc 0 (by simp)
      clear b2 o2 hv hc B1
      go_wp2_with fail
      refine (H2.out _).mono ?_; rintro e w3 ⟨a3, c3, rfl, o3, b3⟩
      have B3 := Lib.hid (keepB B2.out b3)
      replace c0 := cell_later b3 c0
      clear b3 o3 B2
      go_wp2_with fail
      refine (HE.out _).mono ?_; rintro e w5 ⟨rfl, b5⟩
      have B5 := Lib.hid (keepB B3.out b5); clear B3 b5 c0
      go_wp2_with fail
      refine (HA.out _).mono ?_; rintro e w4 ⟨rfl, b4⟩
      have B4 := Lib.hid (keepB B5.out b4); clear B5 b4
      go_wp2_with fail
      go_ret
      exact ⟨rfl, B4.out⟩
end Go.Proofs.YtboagdmjibdlhaaDoor
