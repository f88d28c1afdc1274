/- Contracts of row and Count, and of the reference's Count. -/
import Derived.Test.YtboagdmjibdlhaaDoorScanB
namespace Go.Proofs.YtboagdmjibdlhaaDoor
set_option maxRecDepth 100000
open Go.RowKit

theorem dec_le (l : List UInt8) : (decL l).1 ≤ 2147483647 := by
  have := decode_le ⟨l.toArray⟩ 0
  rw [decode_eq] at this
  simpa using this
theorem drop_ne {s : ByteArray} {pos : Nat} (h : pos < s.size) : (bl s).drop pos ≠ [] := by
  intro h0
  have := congrArg List.length h0
  rw [List.length_drop, bl_len] at this
  simp at this
  omega
theorem next_hit (w : World) (s : ByteArray) (pos : Nat) (h : pos < s.size) (ty : TypeId) :
    (Instr.next (.pointer (some ⟨w.heap.size, 0, none⟩)) true ty).run Tryd.prog (w.iter s pos) =
      .ok (.tuple #[.bool true, .int .i64 pos, .int .i32 ((decL ((bl s).drop pos)).1 : Int)]) (w.iter s (pos + (decL ((bl s).drop pos)).2)) := by
  rw [run_next_any w s pos ty h, decode_eq]
  rfl
theorem next_len {s : ByteArray} {pos : Nat} (h : pos < s.size) : pos + (decL ((bl s).drop pos)).2 ≤ s.size ∧ 1 ≤ (decL ((bl s).drop pos)).2 := by
  have := decL_len (drop_ne h)
  rw [List.length_drop, bl_len] at this
  exact ⟨by omega, decL_pos _⟩
theorem below_iter (w : World) (s : ByteArray) (pos : Nat) : Below w.heap.size w (w.iter s pos) := (Below.refl _ _).alloc (Nat.le_refl _) _

/-- What holds at each round's head of Count. -/
def CntRel (w : World) (s : ByteArray) (n k : Value) (wr : World) : Prop :=
  ∃ pos a b : Nat, wr = w.iter s pos ∧ n = .int .i64 a ∧ k = .int .i64 b ∧ pos ≤ s.size ∧ a ≤ pos ∧ b ≤ pos ∧ (cnt (bl s)).1 = a + (cnt ((bl s).drop pos)).1 ∧ (cnt (bl s)).2 = b + (cnt ((bl s).drop pos)).2

set_option maxHeartbeats 1000000 in
theorem count_any (s : ByteArray) (w : World) (hs : s.size ≤ 1000000) :
    Calls Tryd.prog 22 #[.string s] w fun e w' => e = .returned (.tuple #[.int .i64 ((cnt (bl s)).1 : Int), .int .i64 ((cnt (bl s)).2 : Int)]) ∧ Below w.heap.size w w' := by
  go_enter Tryd.func22, Tryd.ntmps22
  go_wp2
  go_loopw [2, 3] (fun n k wr => CntRel w s n k wr) (fun _ _ wr => s.size - wr.iterPos w.heap.size)
  case atStart => exact ⟨0, 0, 0, rfl, rfl, rfl, Nat.zero_le _, Nat.zero_le _, Nat.zero_le _, by simp, by simp⟩
  case round =>
    obtain ⟨pos, a, b, rfl, rfl, rfl, hp, ha, hb, h1, h2⟩ := hrel
    by_cases hlt : pos < s.size
    · have hnx := next_hit w s pos hlt
      have hd := dec_le ((bl s).drop pos)
      obtain ⟨hl, hw⟩ := next_len hlt
      rw [cnt_step (drop_ne hlt), List.drop_drop] at h1 h2
      have HC := Lib.hid (class_any _ hd)
      clear hd
      generalize decL ((bl s).drop pos) = d at *
      have H1 := Lib.hid h1; have H2 := Lib.hid h2; clear h1 h2
      by_cases hc : cls d.1 = 0
      · rw [hc] at HC
        have hm : s.size - (pos + d.2) < s.size - pos := by omega
        go_wp2_with fail
        refine (HC.out _).mono ?_; rintro e w1 ⟨rfl, rfl⟩
        go_wp2_with fail
        go_roundw
        case rel => exact ⟨pos + d.2, a + 1, b + 1, rfl, by go_num, by go_num, hl, by omega, by omega, by have := H1.out; (try simp at this); omega, by have := H2.out; (try simp [hc] at this); omega⟩
        case measure => simp; omega
      · have e0 : ((cls d.1 : Int) == 0) = false := beq_eq_false_iff_ne.2 (by omega)
        go_wp2_with fail
        refine (HC.out _).mono ?_; rintro e w1 ⟨rfl, rfl⟩
        go_wp2_with fail
        go_roundw
        case rel => exact ⟨pos + d.2, a + 1, b, rfl, by go_num, by go_num, hl, by omega, by omega, by have := H1.out; (try simp at this); omega, by have := H2.out; (try simp [hc] at this); omega⟩
        case measure => simp; omega
    · have hnx := fun ty => run_next_end (P := Tryd.prog) w s pos ty hlt
      have e : (bl s).drop pos = [] := List.drop_eq_nil_of_le (by rw [bl_len]; omega)
      rw [e, cnt_nil] at h1 h2
      simp only [Nat.add_zero] at h1 h2
      have H1 := Lib.hid h1; have H2 := Lib.hid h2; clear h1 h2
      go_wp2
      go_ret2
      exact ⟨by rw [H1.out, H2.out]; rfl, below_iter w s pos⟩

/-- What holds at each round's head of the reference's Count. -/
def CntRef (w : World) (s : ByteArray) (n k i : Value) (wr : World) : Prop :=
  ∃ pos a b : Nat, Below w.heap.size w wr ∧ n = .int .i64 a ∧ k = .int .i64 b ∧ i = .int .i64 pos ∧ pos ≤ s.size ∧ a ≤ pos ∧ b ≤ pos ∧ (cnt (bl s)).1 = a + (cnt ((bl s).drop pos)).1 ∧ (cnt (bl s)).2 = b + (cnt ((bl s).drop pos)).2

set_option maxHeartbeats 1000000 in
theorem refcount_any (s : ByteArray) (w : World) (hs : s.size ≤ 1000000) :
    Calls Tryd.prog 23 #[.string s] w fun e w' => e = .returned (.tuple #[.int .i64 ((cnt (bl s)).1 : Int), .int .i64 ((cnt (bl s)).2 : Int)]) ∧ Below w.heap.size w w' := by
  go_enter Tryd.func23, Tryd.ntmps23
  go_wp2
  go_loopw [4, 5, 6] (fun n k i wr => CntRef w s n k i wr) (fun _ _ i _ => s.size - (intOf i).toNat)
  case atStart => exact ⟨0, 0, 0, Below.refl _ _, rfl, rfl, rfl, Nat.zero_le _, Nat.zero_le _, Nat.zero_le _, by simp, by simp⟩
  case round =>
    obtain ⟨pos, a, b, B, rfl, rfl, rfl, hp, ha, hb, h1, h2⟩ := hrel
    by_cases hlt : pos < s.size
    · have hd := dec_le ((bl s).drop pos)
      obtain ⟨hl, hw⟩ := next_len hlt
      rw [cnt_step (drop_ne hlt), List.drop_drop] at h1 h2
      have HC := Lib.hid (refclass_any _ hd)
      have HR := Lib.hid (fun w => refrune_any s pos w hlt hs)
      clear hd
      generalize decL ((bl s).drop pos) = d at *
      have H1 := Lib.hid h1; have H2 := Lib.hid h2; clear h1 h2
      by_cases hc : cls d.1 = 0
      · rw [hc] at HC
        go_wp2_with fail
        refine (HR.out _).mono ?_; rintro e w1 ⟨rfl, b1⟩
        have B1 := Lib.hid (keepB B b1); clear B b1
        go_wp2_with fail
        refine (HC.out _).mono ?_; rintro e w2 ⟨rfl, rfl⟩
        go_wp2_with fail
        go_roundw
        case rel => exact ⟨pos + d.2, a + 1, b + 1, B1.out, by go_num, by go_num, by go_num, hl, by omega, by omega, by have := H1.out; (try simp at this); omega, by have := H2.out; (try simp [hc] at this); omega⟩
        case measure => simp [intOf]; omega
      · have e0 : ((cls d.1 : Int) == 0) = false := beq_eq_false_iff_ne.2 (by omega)
        go_wp2_with fail
        refine (HR.out _).mono ?_; rintro e w1 ⟨rfl, b1⟩
        have B1 := Lib.hid (keepB B b1); clear B b1
        go_wp2_with fail
        refine (HC.out _).mono ?_; rintro e w2 ⟨rfl, rfl⟩
        go_wp2_with fail
        go_roundw
        case rel => exact ⟨pos + d.2, a + 1, b, B1.out, by go_num, by go_num, by go_num, hl, by omega, by omega, by have := H1.out; (try simp at this); omega, by have := H2.out; (try simp [hc] at this); omega⟩
        case measure => simp [intOf]; omega
    · have e : (bl s).drop pos = [] := List.drop_eq_nil_of_le (by rw [bl_len]; omega)
      rw [e, cnt_nil] at h1 h2
      simp only [Nat.add_zero] at h1 h2
      have H1 := Lib.hid h1; have H2 := Lib.hid h2; clear h1 h2
      go_wp2
      go_ret2
      exact ⟨by rw [H1.out, H2.out]; rfl, B⟩

/-- What holds at each round's head of row. -/
def RowRel (w : World) (s : ByteArray) (k : Value) (wr : World) : Prop :=
  ∃ pos : Nat, wr = w.iter s pos ∧ pos ≤ s.size ∧ ((pos = 0 ∧ k = .int .i64 0) ∨ (0 < pos ∧ k = .int .i64 (rowK (bl s) : Int) ∧ rowN (bl s) = pos + if rowK (bl s) = 4 then 0 else ext (rowK (bl s)) ((bl s).drop pos)))

set_option maxHeartbeats 1000000 in
theorem row_any (s : ByteArray) (w : World) (hs : s.size ≤ 1000000) (h0 : 0 < s.size) :
    Calls Tryd.prog 38 #[.string s] w fun e w' => e = .returned (.tuple #[.int .i64 (rowK (bl s) : Int), .int .i64 (rowN (bl s) : Int)]) ∧ Below w.heap.size w w' := by
  go_enter Tryd.func38, Tryd.ntmps38
  go_wp2
  go_loopw [2] (fun k wr => RowRel w s k wr) (fun _ wr => s.size - wr.iterPos w.heap.size)
  case atStart => exact ⟨0, rfl, Nat.zero_le _, .inl ⟨rfl, rfl⟩⟩
  case round =>
    obtain ⟨pos, rfl, hp, ⟨rfl, rfl⟩ | ⟨hp0, rfl, hN⟩⟩ := hrel
    · -- the first rune
      have hnx := next_hit w s 0 h0
      have hd := dec_le ((bl s).drop 0)
      obtain ⟨hl, hw⟩ := next_len h0
      have HC := Lib.hid (class_any _ hd)
      have hK : rowK (bl s) = cls (decL ((bl s).drop 0)).1 := rfl
      have hN : Hid (rowN (bl s) = (decL ((bl s).drop 0)).2 + if rowK (bl s) = 4 then 0 else ext (rowK (bl s)) ((bl s).drop (decL ((bl s).drop 0)).2)) := rfl
      rw [← hK] at HC
      clear hd hK
      generalize decL ((bl s).drop 0) = d at *
      simp only [Nat.zero_add] at hnx hl
      go_wp2_with fail
      refine (HC.out _).mono ?_; rintro e w1 ⟨rfl, rfl⟩
      go_wp2_with fail
      go_roundw
      case rel => exact ⟨d.2, rfl, hl, .inr ⟨by omega, rfl, hN.out⟩⟩
      case measure => simp; omega
    · by_cases hlt : pos < s.size
      · have hnx := next_hit w s pos hlt
        have hd := dec_le ((bl s).drop pos)
        obtain ⟨hl, hw⟩ := next_len hlt
        have hk4 := cls_le (decL (bl s)).1
        change rowK (bl s) ≤ 4 at hk4
        have HC := Lib.hid (class_any _ hd)
        have e0 : ((pos : Int) == 0) = false := beq_eq_false_iff_ne.2 (by omega)
        by_cases h4 : rowK (bl s) = 4
        · rw [if_pos h4, Nat.add_zero] at hN
          have e4 : ((rowK (bl s) : Int) == 4) = true := beq_iff_eq.2 (by omega)
          have hN' := Lib.hid hN
          clear hd h4 hk4 hN
          generalize decL ((bl s).drop pos) = d at *
          go_wp2_with fail
          go_ret2
          exact ⟨by rw [hN'.out]; rfl, below_iter w s _⟩
        · rw [if_neg h4] at hN
          have e4 : ((rowK (bl s) : Int) == 4) = false := beq_eq_false_iff_ne.2 (by omega)
          by_cases hc : cls (decL ((bl s).drop pos)).1 = rowK (bl s)
          · rw [ext_hit (drop_ne hlt) hc, List.drop_drop] at hN
            rw [hc] at HC
            have hN' := Lib.hid hN; have h4' := Lib.hid h4; clear hN h4 hc hd
            generalize decL ((bl s).drop pos) = d at *
            go_wp2_with fail
            refine (HC.out _).mono ?_; rintro e w1 ⟨rfl, rfl⟩
            go_wp2_with fail
            go_roundw
            case rel => exact ⟨pos + d.2, rfl, hl, .inr ⟨by omega, rfl, by rw [if_neg h4'.out, hN'.out, Nat.add_assoc]⟩⟩
            case measure => simp; omega
          · rw [ext_miss hc, Nat.add_zero] at hN
            have ek : ((cls (decL ((bl s).drop pos)).1 : Int) != (rowK (bl s) : Int)) = true := by rw [bne_iff_ne]; omega
            have hN' := Lib.hid hN
            clear hd h4 hk4 hN hc
            generalize decL ((bl s).drop pos) = d at *
            go_wp2_with fail
            refine (HC.out _).mono ?_; rintro e w1 ⟨rfl, rfl⟩
            go_wp2_with fail
            go_ret2
            exact ⟨by rw [hN'.out]; rfl, below_iter w s _⟩
      · have hnx := fun ty => run_next_end (P := Tryd.prog) w s pos ty hlt
        have e : (bl s).drop pos = [] := List.drop_eq_nil_of_le (by rw [bl_len]; omega)
        rw [e, ext_nil] at hN
        simp only [ite_self, Nat.add_zero] at hN
        have hpe : Hid (pos = s.size) := by show pos = s.size; omega
        have hN' := Lib.hid hN
        clear hN
        go_wp2
        go_ret2
        exact ⟨by rw [hN'.out, hpe.out]; rfl, below_iter w s _⟩
end Go.Proofs.YtboagdmjibdlhaaDoor
