/- Contracts of number, Clone and tokenOf. -/
import Derived.Test.YtboagdmjibdlhaaDoorScanE
import Derived.Test.YtboagdmjibdlhaaDoorShelf
namespace Go.Proofs.YtboagdmjibdlhaaDoor
set_option maxRecDepth 100000
open Go.RowKit

theorem bl_mk (s : ByteArray) : (⟨(bl s).toArray⟩ : ByteArray) = s := by
  obtain ⟨⟨l⟩⟩ := s
  rfl
theorem bl_of (l : List UInt8) : bl ⟨l.toArray⟩ = l := by simp [bl]
theorem bl_extract (s : ByteArray) (a b : Nat) : bl (s.extract a b) = ((bl s).drop a).take (b - a) := by
  have h := ByteArray.extract_mk (bl s) a b
  rw [bl_mk] at h
  rw [h, bl_of]

theorem valN_go : ∀ (x : List UInt8) (m : Nat), (∀ b ∈ x, b.toNat ≤ 57) → x.foldl (fun n b => 10 * n + (b.toNat - 48)) m < (m + 1) * 10 ^ x.length
  | [], m, _ => by simp
  | b :: x, m, h => by
    have hb := h b (List.mem_cons_self ..)
    have ih := valN_go x (10 * m + (b.toNat - 48)) (fun c hc => h c (List.mem_cons_of_mem _ hc))
    rw [List.foldl_cons, List.length_cons, Nat.pow_succ]
    refine Nat.lt_of_lt_of_le ih ?_
    rw [Nat.mul_comm (10 ^ x.length) 10, ← Nat.mul_assoc]
    exact Nat.mul_le_mul_right _ (by omega)
theorem valN_lt {x : List UInt8} (h : ∀ b ∈ x, b.toNat ≤ 57) : valN x < 10 ^ x.length := by
  have := valN_go x 0 h
  simpa [valN] using this
theorem valN_more (x : List UInt8) (b : UInt8) : valN (x ++ [b]) = 10 * valN x + (b.toNat - 48) := by simp [valN]

/-- A row of digits. -/
def Digs (x : List UInt8) : Prop := ∀ b ∈ x, 48 ≤ b.toNat ∧ b.toNat ≤ 57

theorem valN_small {x : List UInt8} (h : Digs x) {n : Nat} (hn : n ≤ 9) (hl : x.length ≤ n) : valN x < 1000000000 := by
  have h1 := valN_lt (fun b hb => (h b hb).2)
  have h2 : 10 ^ x.length ≤ 10 ^ 9 := Nat.pow_le_pow_right (by decide) (by omega)
  have h3 : (10 : Nat) ^ 9 = 1000000000 := by decide
  omega
theorem valN_small8 {x : List UInt8} (h : Digs x) (hl : x.length ≤ 8) : valN x < 100000000 := by
  have h1 := valN_lt (fun b hb => (h b hb).2)
  have h2 : 10 ^ x.length ≤ 10 ^ 8 := Nat.pow_le_pow_right (by decide) (by omega)
  have h3 : (10 : Nat) ^ 8 = 100000000 := by decide
  omega

/-- What holds at each round's head of number. -/
def NumRel (w : World) (s : ByteArray) (n : Value) (wr : World) : Prop :=
  ∃ pos, wr = w.iter s pos ∧ pos ≤ s.size ∧ n = .int .i64 (valN ((bl s).take pos) : Int)

set_option maxHeartbeats 1000000 in
theorem number_ok (s : ByteArray) (w : World) (h9 : s.size ≤ 9) (hd : Digs (bl s)) (h1 : 0 < s.size) (h2 : s.size = 1 ∨ atL (bl s) 0 ≠ 48) :
    Calls Tryd.prog 48 #[.string s] w fun e w' => e = .returned (.tuple #[(Atom.num (valN (bl s) : Int)).val, .int .i64 0]) ∧ Below w.heap.size w w' := by
  have HE : Hid (∀ wr : World, (∀ n, NumRel w s n wr → True)) := fun _ _ _ => trivial
  have hx := index_at s 0 h1 0 rfl
  have i9 : decide ((9 : Int) < (s.size : Int)) = false := decide_eq_false (by omega)
  have HD := Lib.hid hd; clear hd
  have fin : ∀ {P : Prop}, (∀ (b : Bool), decide ((1 : Int) < (s.size : Int)) = b → (b = true → ((atL (bl s) 0 : Int) == 48) = false) → P) → P := by
    intro P k
    refine k _ rfl fun hb => ?_
    have hb := of_decide_eq_true hb
    exact beq_eq_false_iff_ne.2 (by omega)
  refine fin fun b hb hz => ?_
  clear fin h2 HE
  cases b
  · have hb' : decide ((1 : Int) < (s.size : Int)) = false := hb
    clear hz
    go_enter Tryd.func48, Tryd.ntmps48
    go_wp2
    go_loopw [4] (fun n wr => NumRel w s n wr) (fun _ wr => s.size - wr.iterPos w.heap.size)
    case atStart => exact ⟨0, rfl, Nat.zero_le _, rfl⟩
    case round =>
      obtain ⟨pos, rfl, hp, rfl⟩ := hrel
      by_cases hlt : pos < s.size
      · have hnx := next_hit w s pos hlt
        obtain ⟨c, r, hc⟩ : ∃ c r, (bl s).drop pos = c :: r := by
          cases h : (bl s).drop pos with
          | nil => exact absurd h (drop_ne hlt)
          | cons c r => exact ⟨c, r, rfl⟩
        have hm : c ∈ bl s := by
          have : c ∈ (bl s).drop pos := by rw [hc]; exact List.mem_cons_self ..
          exact List.mem_of_mem_drop this
        obtain ⟨c1, c2⟩ := HD.out c hm
        rw [hc, decL_ascii c r (by omega)] at hnx
        have ht : (bl s).take (pos + 1) = (bl s).take pos ++ [c] := by
          have hp' : pos < (bl s).length := by rw [bl_len]; exact hlt
          have : (bl s)[pos]? = some c := by
            have h0 : ((bl s).drop pos)[0]? = some c := by rw [hc]; rfl
            rw [List.getElem?_drop] at h0
            exact h0
          rw [List.take_add_one, this]
          rfl
        have hv : Hid (valN ((bl s).take (pos + 1)) = 10 * valN ((bl s).take pos) + (c.toNat - 48)) := by rw [Hid, ht, valN_more]
        have hsm : valN ((bl s).take pos) < 100000000 := valN_small8 (fun b hb => HD.out b (List.mem_of_mem_take hb)) (by rw [List.length_take]; omega)
        clear hm hc ht
        generalize valN ((bl s).take pos) = m at *
        generalize c.toNat = cn at *
        go_wp2
        go_roundw
        case rel => exact ⟨pos + 1, rfl, hlt, by rw [hv.out]; congr 1; omega⟩
        case measure => simp; omega
      · have hnx := fun ty => run_next_end (P := Tryd.prog) w s pos ty hlt
        have e : Hid ((bl s).take pos = bl s) := List.take_of_length_le (by rw [bl_len]; omega)
        go_wp2
        go_ret2
        exact ⟨by rw [e.out]; rfl, below_iter w s pos⟩
  · have hb' : (1 : Int) < (s.size : Int) := of_decide_eq_true hb
    have hz' := hz rfl
    clear hz hb
    go_enter Tryd.func48, Tryd.ntmps48
    go_wp2
    go_loopw [4] (fun n wr => NumRel w s n wr) (fun _ wr => s.size - wr.iterPos w.heap.size)
    case atStart => exact ⟨0, rfl, Nat.zero_le _, rfl⟩
    case round =>
      obtain ⟨pos, rfl, hp, rfl⟩ := hrel
      by_cases hlt : pos < s.size
      · have hnx := next_hit w s pos hlt
        obtain ⟨c, r, hc⟩ : ∃ c r, (bl s).drop pos = c :: r := by
          cases h : (bl s).drop pos with
          | nil => exact absurd h (drop_ne hlt)
          | cons c r => exact ⟨c, r, rfl⟩
        have hm : c ∈ bl s := by
          have : c ∈ (bl s).drop pos := by rw [hc]; exact List.mem_cons_self ..
          exact List.mem_of_mem_drop this
        obtain ⟨c1, c2⟩ := HD.out c hm
        rw [hc, decL_ascii c r (by omega)] at hnx
        have ht : (bl s).take (pos + 1) = (bl s).take pos ++ [c] := by
          have hp' : pos < (bl s).length := by rw [bl_len]; exact hlt
          have : (bl s)[pos]? = some c := by
            have h0 : ((bl s).drop pos)[0]? = some c := by rw [hc]; rfl
            rw [List.getElem?_drop] at h0
            exact h0
          rw [List.take_add_one, this]
          rfl
        have hv : Hid (valN ((bl s).take (pos + 1)) = 10 * valN ((bl s).take pos) + (c.toNat - 48)) := by rw [Hid, ht, valN_more]
        have hsm : valN ((bl s).take pos) < 100000000 := valN_small8 (fun b hb => HD.out b (List.mem_of_mem_take hb)) (by rw [List.length_take]; omega)
        clear hm hc ht
        generalize valN ((bl s).take pos) = m at *
        generalize c.toNat = cn at *
        go_wp2
        go_roundw
        case rel => exact ⟨pos + 1, rfl, hlt, by rw [hv.out]; congr 1; omega⟩
        case measure => simp; omega
      · have hnx := fun ty => run_next_end (P := Tryd.prog) w s pos ty hlt
        have e : Hid ((bl s).take pos = bl s) := List.take_of_length_le (by rw [bl_len]; omega)
        go_wp2
        go_ret2
        exact ⟨by rw [e.out]; rfl, below_iter w s pos⟩

theorem number_bad (s : ByteArray) (w : World) (h : 9 < s.size ∨ (1 < s.size ∧ atL (bl s) 0 = 48)) :
    Calls Tryd.prog 48 #[.string s] w fun e w' => e = .returned (.tuple #[Atom.nil.val, .int .i64 41]) ∧ Below w.heap.size w w' := by
  by_cases h9 : 9 < s.size
  · clear h
    go_enter Tryd.func48, Tryd.ntmps48
    go_wp2
    go_ret2
    exact ⟨rfl, Below.refl _ _⟩
  · obtain ⟨h1, h2⟩ : 1 < s.size ∧ atL (bl s) 0 = 48 := by
      rcases h with h | h
      · exact absurd h h9
      · exact h
    have hx := index_at s 0 (by omega) 0 rfl
    rw [h2] at hx
    have i9 : decide ((9 : Int) < (s.size : Int)) = false := decide_eq_false (by omega)
    clear h h9 h2
    go_enter Tryd.func48, Tryd.ntmps48
    go_wp2
    go_ret2
    exact ⟨rfl, Below.refl _ _⟩

theorem number_any (s : ByteArray) (w : World) (hd : Digs (bl s)) (h1 : 0 < s.size) :
    Calls Tryd.prog 48 #[.string s] w fun e w' => e = .returned (.tuple #[(tokF 2 (bl s)).1.val, .int .i64 ((tokF 2 (bl s)).2 : Int)]) ∧ Below w.heap.size w w' := by
  have ht : tokF 2 (bl s) = if badN (bl s) = true then (.nil, 41) else (.num (valN (bl s) : Int), 0) := rfl
  rw [ht]
  by_cases hb : badN (bl s) = true
  · rw [if_pos hb]
    refine number_bad s w ?_
    simp [badN, bl_len] at hb
    exact hb
  · rw [if_neg hb]
    simp [badN, bl_len] at hb
    exact number_ok s w (by omega) hd h1 (by omega)

theorem clone_any (s : ByteArray) (w : World) (hs : s.size ≤ 1000000) :
    Calls Tryd.prog 49 #[.string s] w fun e w' => e = .returned (.string s) ∧ Below w.heap.size w w' := by
  have H := Lib.hid (fun w => Tryd.stringslite_Clone s w (by omega))
  go_enter Tryd.func49, Tryd.ntmps49
  go_wp2_with fail
  refine (H.out _).mono ?_; rintro e w1 ⟨rfl, b1⟩
  go_wp2_with fail
  go_ret
  exact ⟨rfl, b1⟩

set_option maxHeartbeats 1000000 in
theorem tokenOf_any (k : Nat) (s : ByteArray) (w : World) (hk : k ≤ 4) (hs : s.size ≤ 1000000) (h1 : 0 < s.size) (hd : k = 2 → Digs (bl s)) :
    Calls Tryd.prog 39 #[.int .i64 (k : Int), .string s] w fun e w' => e = .returned (.tuple #[(tokF k (bl s)).1.val, .int .i64 ((tokF k (bl s)).2 : Int)]) ∧ Below w.heap.size w w' := by
  have hcase : k = 0 ∨ k = 1 ∨ k = 2 ∨ k = 3 ∨ k = 4 := by omega
  rcases hcase with rfl | rfl | rfl | rfl | rfl
  · clear hd
    go_enter Tryd.func39, Tryd.ntmps39
    go_wp2
    go_ret2
    exact ⟨rfl, Below.refl _ _⟩
  · clear hd
    go_enter Tryd.func39, Tryd.ntmps39
    go_wp2
    go_ret2
    exact ⟨rfl, Below.refl _ _⟩
  · have H := Lib.hid (fun w => number_any s w (hd rfl) h1)
    clear hd
    generalize tokF 2 (bl s) = t at *
    go_enter Tryd.func39, Tryd.ntmps39
    go_wp2_with fail
    refine (H.out _).mono ?_; rintro e w1 ⟨rfl, b1⟩
    go_wp2_with fail
    go_ret2
    exact ⟨rfl, b1⟩
  · have H := Lib.hid (fun w => clone_any s w hs)
    have ht : tokF 3 (bl s) = (.txt s, 0) := by
      have : tokF 3 (bl s) = (.txt ⟨(bl s).toArray⟩, 0) := rfl
      rw [this, bl_mk]
    rw [ht]
    clear hd ht
    go_enter Tryd.func39, Tryd.ntmps39
    go_wp2_with fail
    refine (H.out _).mono ?_; rintro e w1 ⟨rfl, b1⟩
    go_wp2_with fail
    go_ret2
    exact ⟨rfl, b1⟩
  · have hx := index_at s 0 h1 0 rfl
    have hb := atL_lt (bl s) 0
    have ht : tokF 4 (bl s) = (.sgn (atL (bl s) 0 : Int), 0) := rfl
    rw [ht]
    clear hd ht
    generalize atL (bl s) 0 = b at *
    go_enter Tryd.func39, Tryd.ntmps39
    go_wp2
    go_ret2
    exact ⟨rfl, Below.refl _ _⟩
end Go.Proofs.YtboagdmjibdlhaaDoor
