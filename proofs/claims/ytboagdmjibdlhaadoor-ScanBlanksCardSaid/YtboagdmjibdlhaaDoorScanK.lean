/- Contract of the law's awake. -/
import Derived.Test.YtboagdmjibdlhaaDoorScanH
namespace Go.Proofs.YtboagdmjibdlhaaDoor
set_option maxRecDepth 100000
open Go.RowKit

def extF : Nat → Nat → List UInt8 → Nat
  | 0, _, _ => 0
  | f + 1, k, l => match l with
    | [] => 0
    | b :: r => if cls (decL (b :: r)).1 = k then (decL (b :: r)).2 + extF f k ((b :: r).drop (decL (b :: r)).2) else 0
theorem ext_fuel : ∀ (f k : Nat) (l : List UInt8), l.length ≤ f → ext k l = extF f k l
  | 0, k, l, h => by
    have : l = [] := List.length_eq_zero_iff.1 (by omega)
    rw [this, ext_nil]; rfl
  | f + 1, k, [], h => ext_nil k
  | f + 1, k, b :: r, h => by
    simp only [extF]
    by_cases hc : cls (decL (b :: r)).1 = k
    · rw [if_pos hc, ext_hit (by simp) hc, ext_fuel f k _ (by have := drop_lt (l := b :: r) (by simp); omega)]
    · rw [if_neg hc, ext_miss hc]
def rowF (l : List UInt8) : Nat := (decL l).2 + if rowK l = 4 then 0 else extF l.length (rowK l) (l.drop (decL l).2)
theorem row_fuel (l : List UInt8) : rowN l = rowF l := by
  unfold rowN rowF
  split
  · rfl
  · rw [ext_fuel l.length]
    rw [List.length_drop]; omega
def resF : Nat → List UInt8 → Res
  | 0, _ => ⟨[], 0, 0⟩
  | f + 1, l => match l with
    | [] => ⟨[], 0, 0⟩
    | b :: r => if (tokF (rowK (b :: r)) ((b :: r).take (rowF (b :: r)))).2 = 0 then Res.after (if rowK (b :: r) = 1 then [] else [(tokF (rowK (b :: r)) ((b :: r).take (rowF (b :: r)))).1]) (rowF (b :: r)) (resF f ((b :: r).drop (rowF (b :: r)))) else ⟨[], 0, (tokF (rowK (b :: r)) ((b :: r).take (rowF (b :: r)))).2⟩
theorem res_fuel : ∀ (f : Nat) (l : List UInt8), l.length ≤ f → res l = resF f l
  | 0, l, h => by
    have : l = [] := List.length_eq_zero_iff.1 (by omega)
    rw [this, res_nil]; rfl
  | f + 1, [], h => res_nil
  | f + 1, b :: r, h => by
    have hr := row_fuel (b :: r)
    have ht : tokK (b :: r) = tokF (rowK (b :: r)) ((b :: r).take (rowF (b :: r))) := by unfold tokK; rw [hr]
    simp only [resF]
    by_cases hc : (tokK (b :: r)).2 = 0
    · rw [res_ok (by simp) hc, ← ht, if_pos hc, ← hr, res_fuel f _ (by have := rest_lt (l := b :: r) (by simp); omega)]
    · rw [res_bad (by simp) hc, ← ht, if_neg hc]
def cntF : Nat → List UInt8 → Nat × Nat
  | 0, _ => (0, 0)
  | f + 1, l => match l with
    | [] => (0, 0)
    | b :: r => ((cntF f ((b :: r).drop (decL (b :: r)).2)).1 + 1, (cntF f ((b :: r).drop (decL (b :: r)).2)).2 + if cls (decL (b :: r)).1 = 0 then 1 else 0)
theorem cnt_fuel : ∀ (f : Nat) (l : List UInt8), l.length ≤ f → cnt l = cntF f l
  | 0, l, h => by
    have : l = [] := List.length_eq_zero_iff.1 (by omega)
    rw [this, cnt_nil]; rfl
  | f + 1, [], h => cnt_nil
  | f + 1, b :: r, h => by
    rw [cnt_step (by simp), cnt_fuel f _ (by have := drop_lt (l := b :: r) (by simp); omega)]
    rfl

def sab : ByteArray := { data := #[97, 98] }
def wakeL : List Atom := [.txt sab, .sgn 43, .num 12]
theorem wake_res : res (bl { data := #[97, 98, 43, 49, 50] }) = ⟨wakeL, 5, 0⟩ := (res_fuel 5 _ (by decide)).trans (by kernel_rfl)
theorem bad_res : res (bl { data := #[97, 32, 48, 48, 55] }) = ⟨[], 2, 41⟩ := (res_fuel 5 _ (by decide)).trans (by kernel_rfl)
theorem rune_res : res (bl { data := #[97, 255] }) = ⟨[], 1, 40⟩ := (res_fuel 2 _ (by decide)).trans (by kernel_rfl)
theorem wake_cnt : cnt (bl { data := #[97, 195, 182, 255] }) = (3, 1) := (cnt_fuel 4 _ (by decide)).trans (by kernel_rfl)
theorem wake_join : (⟨(joinB false wakeL).toArray⟩ : ByteArray) = { data := #[97, 98, 32, 43, 32, 49, 50] } := by
  have h12 : Lib.itoa 12 = [49, 50] := by
    rw [show Lib.itoa 12 = Lib.decDigits 12 by simp [Lib.itoa], Lib.decDigits_two (by decide) (by decide)]
    rfl
  have h : joinB false wakeL = [97, 98, 32, 43, 32, 49, 50] := by
    simp only [wakeL, joinB, textA, h12]
    decide
  rw [h]
theorem wake_onesA : onesEq wakeL wakeL = true := by
  rw [onesEq_self]
  simp [wakeL, sameA]

theorem lies_new (g : Nat) (w : World) (h : Blk w g 20 #[.iface 9 (.string sab), .iface 21 (.int .i32 43), .iface 3 (.int .i64 12)]) : (listA (some ⟨g, 0, none⟩) 3 3 wakeL).Lies w :=
  ⟨fun _ => ⟨g, _, rfl, h, fun i hi => by
    match i, hi with
    | 0, _ => rfl
    | 1, _ => rfl
    | 2, _ => rfl⟩, fun i hi => by
    match i, hi with
    | 0, _ => exact trivial
    | 1, _ => exact trivial
    | 2, _ => exact trivial⟩

theorem scan_wake (w : World) : Calls Tryd.prog 17 #[.string { data := #[97, 98, 43, 49, 50] }] w fun e w' => ∃ a c, e = .returned (.tuple #[.slice a 3 c, .int .i64 5, .int .i64 0]) ∧ (listA a 3 c wakeL).Lies w' ∧ Below w.heap.size w w' := by
  refine (scan_any { data := #[97, 98, 43, 49, 50] } w (by decide)).mono ?_
  rintro e w' ⟨a, c, he, ho, hb⟩
  rw [wake_res] at he ho
  exact ⟨a, c, he, lies_ownA ho, hb⟩
theorem scan_bad (w : World) : Calls Tryd.prog 17 #[.string { data := #[97, 32, 48, 48, 55] }] w fun e w' => ∃ a c, e = .returned (.tuple #[.slice a 0 c, .int .i64 2, .int .i64 41]) ∧ Below w.heap.size w w' := by
  refine (scan_any { data := #[97, 32, 48, 48, 55] } w (by decide)).mono ?_
  rintro e w' ⟨a, c, he, ho, hb⟩
  rw [bad_res] at he ho
  exact ⟨a, c, he, hb⟩
theorem scan_rune (w : World) : Calls Tryd.prog 17 #[.string { data := #[97, 255] }] w fun e w' => ∃ a c, e = .returned (.tuple #[.slice a 0 c, .int .i64 1, .int .i64 40]) ∧ Below w.heap.size w w' := by
  refine (scan_any { data := #[97, 255] } w (by decide)).mono ?_
  rintro e w' ⟨a, c, he, ho, hb⟩
  rw [rune_res] at he ho
  exact ⟨a, c, he, hb⟩
theorem count_wake (w : World) : Calls Tryd.prog 22 #[.string { data := #[97, 195, 182, 255] }] w fun e w' => e = .returned (.tuple #[.int .i64 3, .int .i64 1]) ∧ Below w.heap.size w w' := by
  have h := count_any { data := #[97, 195, 182, 255] } w (by decide)
  rw [wake_cnt] at h
  exact h
theorem equal_wake (a : Option Addr) (c g : Nat) (w : World) (h : (listA a 3 c wakeL).Lies w) (h' : (listA (some ⟨g, 0, none⟩) 3 3 wakeL).Lies w) :
    Calls Tryd.prog 25 #[.iface 29 (.slice a 3 c), .iface 29 (.slice (some ⟨g, 0, none⟩) 3 3)] w fun e w' => e = .returned (.bool true) ∧ Below w.heap.size w w' := by
  have h := equal_listsA a (some ⟨g, 0, none⟩) c 3 wakeL wakeL w h h' (by decide) (by decide)
  rw [wake_onesA] at h
  exact h
theorem join_wake (a : Option Addr) (c : Nat) (w : World) (h : (listA a 3 c wakeL).Lies w) :
    Calls Tryd.prog 24 #[.slice a 3 c] w fun e w' => e = .returned (.string { data := #[97, 98, 32, 43, 32, 49, 50] }) ∧ Below w.heap.size w w' := by
  have hj := wake_join
  have h7 : (joinB false wakeL).length = 7 := by have := congrArg (fun x : ByteArray => x.data.size) hj; simpa using this
  have h := join_any a c wakeL w h (by decide) (fun x hx => by
    simp [wakeL] at hx
    rcases hx with rfl | rfl | rfl
    · exact trivial
    · exact trivial
    · exact .inl ⟨by decide, by decide⟩) (by omega)
  rw [hj] at h
  exact h
theorem class_wake (w : World) : Calls Tryd.prog 20 #[.int .i32 246] w fun e w' => e = .returned (.int .i64 3) ∧ w = w' := class_any 246 (by decide) w

set_option maxHeartbeats 4000000 in
theorem lawake_any (w : World) : Calls Tryd.prog 16 #[] w fun e w' => e = .returned (.bool true) ∧ Below w.heap.size w w' := by
  go_enter Tryd.func16, Tryd.ntmps16
  go_wp2_with fail
  refine (scan_wake _).mono ?_; rintro e w1 ⟨a, c, rfl, l1, b1⟩
  have HL := Lib.hid l1; have HB := Lib.hid b1; clear l1 b1
  go_wp2_with fail
  refine (scan_bad _).mono ?_; rintro e w2 ⟨a2, c2, rfl, b2⟩
  have HL2 := Lib.hid (HL.out.keep (Keeps.below b2)); have HB2 := Lib.hid (keepB HB.out b2); clear HL HB b2
  go_wp2_with fail
  refine (scan_rune _).mono ?_; rintro e w3 ⟨a3, c3, rfl, b3⟩
  have HL3 := Lib.hid (HL2.out.keep (Keeps.below b3)); have HB3 := Lib.hid (keepB HB2.out b3); clear HL2 HB2 b3
  go_wp2_with fail
  refine (count_wake _).mono ?_; rintro e w4 ⟨rfl, b4⟩
  have HL4 := Lib.hid (HL3.out.keep (Keeps.below b4)); have HB4 := Lib.hid (keepB HB3.out b4); clear HL3 HB3 b4
  go_wp2_with fail
  have k5 := Blk.new w4 20 #[.iface 9 (.string { data := #[97, 98] }), .iface 21 (.int .i32 43), .iface 3 (.int .i64 12)]
  have HL5 := Lib.hid (HL4.out.keep (Keeps.alloc w4 (.cells #[.iface 9 (.string { data := #[97, 98] }), .iface 21 (.int .i32 43), .iface 3 (.int .i64 12)] 20)))
  have HB5 := Lib.hid (keepB HB4.out ((Below.refl _ _).alloc (Nat.le_refl _) (.cells #[.iface 9 (.string { data := #[97, 98] }), .iface 21 (.int .i32 43), .iface 3 (.int .i64 12)] 20)))
  generalize w4.alloc (.cells #[.iface 9 (.string { data := #[97, 98] }), .iface 21 (.int .i32 43), .iface 3 (.int .i64 12)] 20) = W at *
  have HN := Lib.hid (lies_new w4.heap.size W k5)
  clear k5 HL4 HB4
  refine (equal_wake _ _ _ _ HL5.out HN.out).mono ?_; rintro e w6 ⟨rfl, b6⟩
  have HL6 := Lib.hid (HL5.out.keep (Keeps.below b6)); have HB6 := Lib.hid (keepB HB5.out b6); clear HL5 HB5 HN b6
  go_wp2_with fail
  refine (class_wake _).mono ?_; rintro e w7 ⟨rfl, rfl⟩
  go_wp2_with fail
  refine (join_wake _ _ _ HL6.out).mono ?_; rintro e w8 ⟨rfl, b8⟩
  have HB8 := Lib.hid (keepB HB6.out b8); clear HL6 HB6 b8
  go_wp2_with fail
  go_ret
  exact ⟨rfl, HB8.out⟩
end Go.Proofs.YtboagdmjibdlhaaDoor
