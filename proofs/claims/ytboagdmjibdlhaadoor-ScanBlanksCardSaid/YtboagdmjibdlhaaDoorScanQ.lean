/- Walk of ScanBlanks. -/
import Derived.Test.YtboagdmjibdlhaaDoorScanO
namespace Go.Proofs.YtboagdmjibdlhaaDoor
set_option maxRecDepth 100000
open Go.RowKit

theorem wide_len (n : Nat) : ∀ (l : List UInt8), (wide n l).length ≤ l.length * (n + 1)
  | [] => by simp [wide]
  | b :: l => by
    have ih := wide_len n l
    simp only [wide] at ih
    simp only [wide, List.flatMap_cons, List.length_append, List.length_cons, Nat.succ_mul]
    generalize l.length * (n + 1) = Y at *
    split
    · rw [List.length_cons, List.length_replicate]; omega
    · rw [List.length_cons, List.length_nil]; omega
theorem wide_more (n : Nat) (l : List UInt8) (b : UInt8) : wide n (l ++ [b]) = wide n l ++ if b = 32 then 32 :: List.replicate n 9 else [b] := by simp [wide]

/-- What holds at each round's head of the pad. -/
def PadRel (W : World) (N : Nat) (pad i : Value) (wr : World) : Prop :=
  ∃ (k : Nat) (p : ByteArray), i = .int .i64 k ∧ k ≤ N ∧ pad = .string p ∧ bl p = List.replicate k 9 ∧ W = wr
/-- What holds at each round's head of the wide text. -/
def WideRel (W : World) (s : ByteArray) (N : Nat) (x i : Value) (wr : World) : Prop :=
  ∃ (k : Nat) (p : ByteArray), i = .int .i64 k ∧ k ≤ s.size ∧ x = .string p ∧ bl p = wide N ((bl s).take k) ∧ W = wr

theorem add_any (a b : ByteArray) (h : a.size + b.size ≤ 1000000) : (∀ W : World, (Op.stringOp .add a b).run Tryd.prog W = .ok (.string (a ++ b)) W) ∧ ¬ 9223372036854775807 < (a.size + b.size) :=
  ⟨fun W => run_string_add_sum W _ _ (by omega), by omega⟩
theorem size_of {a : ByteArray} {l : List UInt8} (h : bl a = l) : a.size = l.length := by rw [← bl_len, h]

set_option maxHeartbeats 4000000 in
theorem scanBlanks_walk (s : ByteArray) (n : Int) (h0 : -9223372036854775808 ≤ n) (h1 : n ≤ 9223372036854775807) (w : World) :
    Calls Tryd.prog 9 #[.string s, .int .i64 n] w fun e w' => e = .returned (.bool true) ∧ Below w.heap.size w w' := by
  have HA := Lib.hid lawake_any
  by_cases hl : 200 < s.size
  · go_enter Tryd.func9, Tryd.ntmps9
    go_wp2_with fail
    refine (HA.out _).mono ?_; rintro e w1 ⟨rfl, b1⟩
    go_wp2_with fail
    go_ret
    exact ⟨rfl, b1⟩
  have l0 : decide ((200 : Int) < (s.size : Int)) = false := decide_eq_false (by omega)
  by_cases hn : n < 0
  · go_enter Tryd.func9, Tryd.ntmps9
    go_wp2_with fail
    refine (HA.out _).mono ?_; rintro e w1 ⟨rfl, b1⟩
    go_wp2_with fail
    go_ret
    exact ⟨rfl, b1⟩
  have n0 : decide (n < 0) = false := decide_eq_false hn
  by_cases hm : 20 < n
  · go_enter Tryd.func9, Tryd.ntmps9
    go_wp2_with fail
    refine (HA.out _).mono ?_; rintro e w1 ⟨rfl, b1⟩
    go_wp2_with fail
    go_ret
    exact ⟨rfl, b1⟩
  have n1 : decide (20 < n) = false := decide_eq_false hm
  obtain ⟨N, rfl⟩ := Int.eq_ofNat_of_zero_le (show 0 ≤ n by omega)
  have hN : N ≤ 20 := by omega
  have H1 := Lib.hid (fun w => scan_any s w (by omega))
  obtain ⟨r1, r2⟩ := res_blanks N (bl s)
  have c1 := res_count_le s
  have hse := res_self (bl s)
  have hE3 := (res_errs (List.replicate N 9 ++ (wide N (bl s) ++ List.replicate N 9))).2.1
  have hR1 := Lib.hid r1; have hR2 := Lib.hid r2; have hE3' := Lib.hid hE3
  have hls : s.size ≤ 200 := by omega
  have hps := (res_errs (bl s)).2.2
  rw [bl_len] at hps
  clear r1 r2 hE3 hn hm h0 h1 hl
  generalize res (bl s) = R at *
  obtain ⟨t, p, e⟩ := R
  simp only [Told] at H1 c1 hse hR1 hR2 hps
  go_enter Tryd.func9, Tryd.ntmps9
  go_wp2_with fail
  refine (H1.out _).mono ?_; rintro e' w1 ⟨a1, k1, rfl, o1, b1⟩
  have B1 := Lib.hid b1; have L1 := Lib.hid (lies_ownA o1); clear b1 o1
  go_wp2_with fail
  go_loopw [8, 33] (fun pad i wr => PadRel w1 N pad i wr) (fun _ i _ => N - (intOf i).toNat)
  case atStart => exact ⟨0, { data := #[] }, rfl, Nat.zero_le _, rfl, rfl, rfl⟩
  case round =>
    obtain ⟨k, pk, rfl, hk, rfl, hpk, hwr⟩ := hrel
    subst hwr
    by_cases hlt : k < N
    · have hpz := size_of hpk
      rw [List.length_replicate] at hpz
      obtain ⟨hadd, hadd'⟩ := add_any pk { data := #[9] } (by show pk.size + 1 ≤ _; omega)
      have hb : Hid (bl (pk ++ { data := #[9] }) = List.replicate (k + 1) 9) := by
        rw [Hid, bl_append, hpk, List.replicate_succ']
        rfl
      clear hpk hpz
      go_wp2_with fail
      go_roundw
      case rel => exact ⟨k + 1, _, by go_num, hlt, rfl, hb.out, rfl⟩
      case measure => simp [intOf]; omega
    · obtain rfl : k = N := by omega
      have HPk := Lib.hid hpk
      have hpz : pk.size = k := by have := size_of hpk; rw [List.length_replicate] at this; exact this
      clear hpk
      go_wp2_with fail
      go_loopw [9, 10] (fun x i wr => WideRel w1 s k x i wr) (fun _ i _ => s.size - (intOf i).toNat)
      case atStart => exact ⟨0, { data := #[] }, rfl, Nat.zero_le _, rfl, rfl, rfl⟩
      case round =>
        obtain ⟨j, x, rfl, hj, rfl, hx, hwr⟩ := hrel
        subst hwr
        have hxz : x.size ≤ 4200 := by
          have h1 := size_of hx
          have h2 := wide_len k ((bl s).take j)
          have h3 : ((bl s).take j).length * (k + 1) ≤ 200 * 21 := Nat.mul_le_mul (by rw [List.length_take, bl_len]; omega) (by omega)
          omega
        by_cases hjl : j < s.size
        · have hi := index_at s j hjl (j : Int) rfl
          obtain ⟨c, hc⟩ : ∃ c, (bl s)[j]? = some c := ⟨_, List.getElem?_eq_getElem (by rw [bl_len]; exact hjl)⟩
          have hca : atL (bl s) j = c.toNat := by simp [atL, List.getD_eq_getElem?_getD, hc]
          have ht : (bl s).take (j + 1) = (bl s).take j ++ [c] := by rw [List.take_add_one, hc]; rfl
          have hone : bl (s.extract j (j + 1)) = [c] := by
            rw [bl_extract, Nat.add_sub_cancel_left]
            have hd : (bl s).drop j = c :: (bl s).drop (j + 1) := by
              have hj' : j < (bl s).length := by rw [bl_len]; exact hjl
              rw [List.drop_eq_getElem_cons hj']
              rw [List.getElem?_eq_getElem hj'] at hc
              simp at hc
              rw [hc]
            rw [hd]; rfl
          have hoz := size_of hone
          simp only [List.length_cons, List.length_nil] at hoz
          obtain ⟨y, hy⟩ : ∃ y, s.extract j (j + 1) = y := ⟨_, rfl⟩
          rw [hy] at hone hoz
          obtain ⟨hadd, hadd'⟩ := add_any x y (by omega)
          have hz1 : (x ++ y).size = x.size + 1 := by rw [← bl_len, bl_append, List.length_append, bl_len, bl_len]; omega
          obtain ⟨x1, hx1⟩ : ∃ x1, x ++ y = x1 := ⟨_, rfl⟩
          rw [hx1] at hadd hz1
          obtain ⟨hadd2, hadd2'⟩ := add_any x1 pk (by omega)
          have hb1 : Hid (bl x1 = wide k ((bl s).take j) ++ [c]) := by rw [Hid, ← hx1, bl_append, hx, hone]
          rw [hca] at hi
          have hw1 := wide_more k ((bl s).take j) c
          by_cases h32 : c = 32
          · have hb2 : Hid (bl (x1 ++ pk) = wide k ((bl s).take (j + 1))) := by
              rw [Hid, ht, hw1, if_pos h32, bl_append, hb1.out, HPk.out, h32, List.append_assoc]
              rfl
            rw [h32] at hi
            have hi' : ∀ W : World, (Instr.index 9 (.string s) (.int .i64 (j : Int))).run Tryd.prog W = .ok (.int .u8 32) W := hi
            clear hi hx hc hca ht hone hx1 hw1 h32 hb1 hoz hz1
            go_wp2_with fail
            go_roundw
            case rel => exact ⟨j + 1, _, by go_num, hjl, rfl, hb2.out, rfl⟩
            case measure => simp [intOf]; omega
          · have hb2 : Hid (bl x1 = wide k ((bl s).take (j + 1))) := by rw [Hid, ht, hw1, if_neg h32, hb1.out]
            have hne : ((c.toNat : Int) == 32) = false := by
              rw [beq_eq_false_iff_ne]
              intro h
              exact h32 (UInt8.toNat_inj.1 (by show c.toNat = 32; omega))
            clear hx hc hca ht hone hx1 hw1 h32 hb1 hoz hz1 hadd2 hadd2'
            generalize c.toNat = cn at *
            go_wp2_with fail
            go_roundw
            case rel => exact ⟨j + 1, _, by go_num, hjl, rfl, hb2.out, rfl⟩
            case measure => simp [intOf]; omega
        · have hxw : bl x = wide k (bl s) := by rw [hx, List.take_of_length_le (by rw [bl_len]; omega)]
          obtain ⟨hadd, hadd'⟩ := add_any pk x (by omega)
          have hz1 : (pk ++ x).size = k + x.size := by rw [← bl_len, bl_append, List.length_append, bl_len, bl_len]; omega
          obtain ⟨x1, hx1⟩ : ∃ x1, pk ++ x = x1 := ⟨_, rfl⟩
          rw [hx1] at hadd hz1
          obtain ⟨hadd2, hadd2'⟩ := add_any x1 pk (by omega)
          have hz2 : (x1 ++ pk).size = x1.size + k := by rw [← bl_len, bl_append, List.length_append, bl_len, bl_len]; omega
          obtain ⟨x2, hx2⟩ : ∃ x2, x1 ++ pk = x2 := ⟨_, rfl⟩
          rw [hx2] at hadd2 hz2
          have hb : bl x2 = List.replicate k 9 ++ (wide k (bl s) ++ List.replicate k 9) := by
            rw [← hx2, ← hx1, bl_append, bl_append, HPk.out, hxw, List.append_assoc]
          have H2 := Lib.hid (fun w => scan_any x2 w (by omega))
          have hE := hE3'.out
          have hR1' := hR1.out; have hR2' := hR2.out
          rw [← hb] at hE hR1' hR2'
          rw [bl_len] at hE
          generalize res (bl x2) = R2 at *
          obtain ⟨t2, p2, e2⟩ := R2
          simp only at hE hR1' hR2'
          subst hR1' hR2'
          simp only [Told] at H2
          have HE : Hid (∀ (a b : Option Addr) (c c' : Nat) (w : World), (listA a t2.length c t2).Lies w → (listA b t2.length c' t2).Lies w → Calls Tryd.prog 25 #[.iface 29 (.slice a t2.length c), .iface 29 (.slice b t2.length c')] w fun e w' => e = .returned (.bool true) ∧ Below w.heap.size w w') := by
            intro a b c c' w h h'
            have := equal_listsA a b c c' t2 t2 w h h' (by omega) (by omega)
            rw [hse] at this
            exact this
          by_cases he : e2 = 0
          · subst he
            have hp2 : p2 = x.size + 2 * k := by rw [hE rfl]; omega
            subst hp2
            by_cases h0 : t2.length = 0
            · have h0' : ((t2.length : Int) == 0) = true := beq_iff_eq.2 (by omega)
              clear hb hx1 hx2 hxw hx hE hse HE h0 hR1 hR2 hE3'
              go_wp2_with fail
              refine (H2.out _).mono ?_; rintro e' w2 ⟨a2, k2, rfl, o2, b2⟩
              have B2 := Lib.hid (keepB B1.out b2); clear b2 o2
              go_wp2_with fail
              refine (HA.out _).mono ?_; rintro e w4 ⟨rfl, b4⟩
              have B4 := Lib.hid (keepB B2.out b4); clear B2 b4
              go_wp2_with fail
              go_ret
              exact ⟨rfl, B4.out⟩
            · have h0' : ((t2.length : Int) == 0) = false := beq_eq_false_iff_ne.2 (by omega)
              clear hb hx1 hx2 hxw hx hE hse h0 hR1 hR2 hE3'
              go_wp2_with fail
              refine (H2.out _).mono ?_; rintro e' w2 ⟨a2, k2, rfl, o2, b2⟩
              have B2 := Lib.hid (keepB B1.out b2); have L2 := Lib.hid (L1.out.keep (Keeps.below b2)); have M2 := Lib.hid (lies_ownA o2); clear b2 o2
              go_wp2_with fail
              refine (HE.out _ _ _ _ _ L2.out M2.out).mono ?_; rintro e w3 ⟨rfl, b3⟩
              have B3 := Lib.hid (keepB B2.out b3); clear B2 L2 M2 b3
              go_wp2_with fail
              refine (HA.out _).mono ?_; rintro e w4 ⟨rfl, b4⟩
              have B4 := Lib.hid (keepB B3.out b4); clear B3 b4
              go_wp2_with fail
              go_ret
              exact ⟨rfl, B4.out⟩
          · have n2 : ((e2 : Int) != 0) = true := by rw [bne_iff_ne]; omega
            clear hb hx1 hx2 hxw hx hE hse HE he hR1 hR2 hE3'
            go_wp2_with fail
            refine (H2.out _).mono ?_; rintro e' w2 ⟨a2, k2, rfl, o2, b2⟩
            have B2 := Lib.hid (keepB B1.out b2); clear b2 o2
            go_wp2_with fail
            refine (HA.out _).mono ?_; rintro e w4 ⟨rfl, b4⟩
            have B4 := Lib.hid (keepB B2.out b4); clear B2 b4
            go_wp2_with fail
            go_ret
            exact ⟨rfl, B4.out⟩
end Go.Proofs.YtboagdmjibdlhaaDoor
