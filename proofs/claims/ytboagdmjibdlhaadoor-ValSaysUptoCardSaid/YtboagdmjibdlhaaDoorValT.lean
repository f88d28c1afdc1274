/- Contracts of the law's digits and text. -/
import Derived.Test.YtboagdmjibdlhaaDoorValS
import Derived.Test.YtboagdmjibdlhaaDoorValLKinds
import Derived.Laws.IdiomStrings
import Derived.Lib.ItoaLen
namespace Go.Proofs.YtboagdmjibdlhaaDoor
set_option maxRecDepth 100000
open Go.RowKit

/-- One byte in a slice of its own, as a text. -/
theorem byte_text (c : Nat) (hc : c < 208) (w : World) (g : Nat) (h : w.cell? ⟨g, 0, none⟩ = some (.int .u8 (48 + (c : Int)))) : (convert 57 9 (.slice (some ⟨g, 0, none⟩) 1 1)).run Tryd.prog w = .ok (.string ⟨#[UInt8.ofNat (48 + c)]⟩) w := by
  have hn : (UInt8.ofNat (48 + c)).toNat = 48 + c := by simp [UInt8.toNat_ofNat']; omega
  refine run_convert_bytes_back w 57 9 5 ⟨g, 0, none⟩ 1 [UInt8.ofNat (48 + c)] Tryd.underlying57 Tryd.underlying5 Tryd.underlying9 (fun j hj => ?_)
  have hj' : j < 1 := hj
  obtain rfl : j = 0 := by omega
  rw [Addr.add_lit, Nat.zero_add, h]
  simp only [List.getElem_cons_zero, hn]
  simp

set_option maxHeartbeats 1000000 in
theorem digits_one (u : Nat) (h : u < 10) (w : World) : Calls Tryd.prog 31 #[.int .i64 (u : Int)] w fun e w' => e = .returned (.string ⟨(Lib.decDigits u).toArray⟩) ∧ Below w.heap.size w w' := by
  have hd : Lib.decDigits u = [UInt8.ofNat (48 + u)] := by rw [Lib.decDigits, dif_pos h]
  rw [hd]
  have h0 : ¬(u : Int) < 0 := by omega
  have h1 : (u : Int) < 10 := by omega
  have hb := byte_text u (by omega) (w.alloc (.cells #[.int .u8 (48 + (u : Int))] 5)) w.heap.size ((Blk.new w 5 #[.int .u8 (48 + (u : Int))]).cell 0)
  clear hd
  go_enter Tryd.func31, Tryd.ntmps31
  go_wp2_with fail
  go_ret
  exact ⟨rfl, (Below.refl _ _).alloc (Nat.le_refl _) _⟩

set_option maxHeartbeats 2000000 in
theorem digits_more (u : Nat) (h : ¬u < 10) (hu : u ≤ 9223372036854775807) (ih : ∀ w, Calls Tryd.prog 31 #[.int .i64 ((u / 10 : Nat) : Int)] w fun e w' => e = .returned (.string ⟨(Lib.decDigits (u / 10)).toArray⟩) ∧ Below w.heap.size w w')
    (w : World) : Calls Tryd.prog 31 #[.int .i64 (u : Int)] w fun e w' => e = .returned (.string ⟨(Lib.decDigits u).toArray⟩) ∧ Below w.heap.size w w' := by
  have h0 : ¬(u : Int) < 0 := by omega
  have h1 : ¬(u : Int) < 10 := by omega
  have hd : Lib.decDigits u = Lib.decDigits (u / 10) ++ [UInt8.ofNat (48 + u % 10)] := by rw [Lib.decDigits, dif_neg h]
  have q1 : IntKind.i64.wrap ((u : Int) / 10) = ((u / 10 : Nat) : Int) := by rw [IntKind.wrap_i64]; omega
  have q2 : (u : Int).tmod 10 = ((u % 10 : Nat) : Int) := by rw [Int.tmod_eq_emod_of_nonneg (by omega)]; rfl
  have hm : u % 10 < 10 := Nat.mod_lt _ (by omega)
  rw [hd]
  clear hd h
  have hDl : (Lib.decDigits (u / 10)).length ≤ 20 := by rw [Lib.decDigits_length]; exact Lib.nDigits_le20 _ (by omega)
  have HS : Hid ((⟨(Lib.decDigits (u / 10) ++ [UInt8.ofNat (48 + u % 10)]).toArray⟩ : ByteArray) = ⟨(Lib.decDigits (u / 10)).toArray⟩ ++ ⟨#[UInt8.ofNat (48 + u % 10)]⟩) := by simp [Hid, ByteArray.mk_append_mk]
  have IH := Lib.hid ih; clear ih
  generalize (Lib.decDigits (u / 10)) = D at *
  generalize u % 10 = m at *
  generalize u / 10 = v at *
  have q3 : IntKind.i64.wrap (48 + (m : Int)) = 48 + (m : Int) := by rw [IntKind.wrap_i64]; omega
  have q4 : IntKind.u8.wrap (48 + (m : Int)) = 48 + (m : Int) := by rw [IntKind.wrap_u8]; omega
  have hb := byte_text m (by omega)
  generalize UInt8.ofNat (48 + m) = ch at *
  have hsz : (⟨D.toArray⟩ : ByteArray).size + (⟨#[ch]⟩ : ByteArray).size ≤ 9223372036854775807 := by simp [ByteArray.size]; omega
  have hadd : ∀ W : World, (Op.stringOp .add ⟨D.toArray⟩ ⟨#[ch]⟩).run Tryd.prog W = .ok (.string (⟨D.toArray⟩ ++ ⟨#[ch]⟩)) W := fun W => run_string_add_sum W _ _ hsz
  have hsz' : ¬ 9223372036854775807 < ((⟨D.toArray⟩ : ByteArray).size + (⟨#[ch]⟩ : ByteArray).size) := by omega
  go_enter Tryd.func31, Tryd.ntmps31
  go_wp2_with fail
  go_region_with ((go_at_call 31; (with_reducible refine (IH.out _).mono ?_); rintro e w1 ⟨rfl, hb1⟩; (try have hc1 : w1.cell? ⟨w.heap.size, 0, none⟩ = some (.int .u8 (48 + (m : Int))) := cell_later hb1 ((Blk.new w.drew 5 #[.int .u8 (48 + (m : Int))]).cell 0))))
  all_goals go_wp2_with fail
  all_goals go_ret
  all_goals refine ⟨by rw [HS.out]; rfl, ?_⟩
  all_goals first | exact below_alloc (bl_drew hb1) | exact bl_drew (((Below.refl _ w.drew).alloc (Nat.le_refl _) _).trans (hb1.mono (by simp))) 

theorem digits_nat : ∀ (k u : Nat), u ≤ k → u ≤ 9223372036854775807 → ∀ w, Calls Tryd.prog 31 #[.int .i64 (u : Int)] w fun e w' => e = .returned (.string ⟨(Lib.decDigits u).toArray⟩) ∧ Below w.heap.size w w'
  | 0, u, hk, _, w => digits_one u (by omega) w
  | k + 1, u, hk, hu, w => by
    by_cases h : u < 10
    · exact digits_one u h w
    · exact digits_more u h hu (fun w => digits_nat k (u / 10) (by omega) (by omega) w) w

set_option maxHeartbeats 1000000 in
theorem digits_any (n : Int) (h0 : -9223372036854775808 ≤ n) (h1 : n ≤ 9223372036854775807) (w : World) : Calls Tryd.prog 31 #[.int .i64 n] w fun e w' => e = .returned (.string ⟨(Lib.itoa n).toArray⟩) ∧ Below w.heap.size w w' := by
  by_cases hn : n < 0
  · by_cases hm : n = -9223372036854775808
    · subst hm
      have hi : (⟨(Lib.itoa (-9223372036854775808)).toArray⟩ : ByteArray) = { data := #[45, 57, 50, 50, 51, 51, 55, 50, 48, 51, 54, 56, 53, 52, 55, 55, 53, 56, 48, 56] } := by
        simp [Lib.itoa, Lib.decDigits]
      rw [hi]
      go_enter Tryd.func31, Tryd.ntmps31
      go_wp2_with fail
      go_ret
      exact ⟨rfl, Below.refl _ _⟩
    · obtain ⟨u, hu⟩ := Int.eq_ofNat_of_zero_le (show 0 ≤ -n by omega)
      have hi : (⟨(Lib.itoa n).toArray⟩ : ByteArray) = ⟨#[45]⟩ ++ ⟨(Lib.decDigits u).toArray⟩ := by
        rw [Lib.itoa, if_pos hn, show n.natAbs = u by omega, ByteArray.mk_append_mk]
        simp
      have IH := Lib.hid (digits_nat u u (Nat.le_refl _) (by omega))
      have hDl : (Lib.decDigits u).length ≤ 20 := by rw [Lib.decDigits_length]; exact Lib.nDigits_le20 _ (by omega)
      rw [hi]
      clear hi
      have e1 : (n == -9223372036854775808) = false := beq_eq_false_iff_ne.2 hm
      have q1 : IntKind.i64.wrap (-n) = (u : Int) := by rw [IntKind.wrap_i64]; omega
      generalize Lib.decDigits u = D at *
      have hsz : (⟨#[45]⟩ : ByteArray).size + (⟨D.toArray⟩ : ByteArray).size ≤ 9223372036854775807 := by simp [ByteArray.size]; omega
      have hadd : ∀ W : World, (Op.stringOp .add ⟨#[45]⟩ ⟨D.toArray⟩).run Tryd.prog W = .ok (.string (⟨#[45]⟩ ++ ⟨D.toArray⟩)) W := fun W => run_string_add_sum W _ _ hsz
      have hsz' : ¬ 9223372036854775807 < ((⟨#[45]⟩ : ByteArray).size + (⟨D.toArray⟩ : ByteArray).size) := by omega
      clear hm h0 hu
      go_enter Tryd.func31, Tryd.ntmps31
      go_wp2_with fail
      refine (IH.out _).mono ?_; rintro e w1 ⟨rfl, hb1⟩
      go_wp2_with fail
      go_ret
      exact ⟨rfl, hb1⟩
  · obtain ⟨u, rfl⟩ := Int.eq_ofNat_of_zero_le (show 0 ≤ n by omega)
    have hi : Lib.itoa (u : Int) = Lib.decDigits u := by simp [Lib.itoa]
    rw [hi]
    exact digits_nat u u (Nat.le_refl _) (by omega) w

/-- Its number is one of 64 bits. -/
def Raw.fit64 (x : Raw) : Prop := -9223372036854775808 ≤ x.n ∧ x.n ≤ 9223372036854775807

theorem text_any (x : Raw) (hx : x.fit64) (w : World) : Calls Tryd.prog 12 #[x.val] w fun e w' => e = .returned (.string (textA x.atom)) ∧ Below w.heap.size w w' := by
  have K := Lib.hid (kind_any x)
  have D := Lib.hid (digits_any x.n hx.1 hx.2)
  clear hx
  rcases x.forms with ⟨h1, h2⟩ | ⟨h1, h2⟩ | ⟨h1, h2⟩ | ⟨h1, h2⟩ | ⟨h1, v, h2⟩
  all_goals
   (rw [h1] at K
    rw [h2]
    clear h1 h2
    obtain ⟨k, n, s, r⟩ := x
    simp only [Raw.val, Raw.cs, textA] at K D ⊢
    generalize (⟨(Lib.itoa n).toArray⟩ : ByteArray) = tn at *
    go_enter Tryd.func12, Tryd.ntmps12
    go_wp2_with fail
    have B0 : Below w.heap.size w (w.alloc (.cells #[.int .i64 k, .int .i64 n, .string s, .int .i32 r] 23)) := (Below.refl _ _).alloc (Nat.le_refl _) _
    have k0 := Blk.new w 23 #[.int .i64 k, .int .i64 n, .string s, .int .i32 r]
    generalize w.alloc (.cells #[.int .i64 k, .int .i64 n, .string s, .int .i32 r] 23) = W at *
    have c0 := k0.cell 0; have c1 := k0.cell 1; have c2 := k0.cell 2; have c3 := k0.cell 3
    simp at c0 c1 c2 c3
    have HB := Lib.hid B0; clear B0 k0
    refine (K.out _).mono ?_; rintro e w1 ⟨rfl, b1⟩
    replace c0 := cell_later b1 c0; replace c1 := cell_later b1 c1; replace c2 := cell_later b1 c2; replace c3 := cell_later b1 c3
    have HB1 := Lib.hid (keepB HB.out b1)
    clear b1 HB
    go_wp2_with fail
    first
    | (refine (D.out _).mono ?_; rintro e w2 ⟨rfl, b2⟩
       go_wp2_with fail
       go_ret
       exact ⟨rfl, keepB HB1.out b2⟩)
    | (go_ret
       exact ⟨rfl, HB1.out⟩))
end Go.Proofs.YtboagdmjibdlhaaDoor
