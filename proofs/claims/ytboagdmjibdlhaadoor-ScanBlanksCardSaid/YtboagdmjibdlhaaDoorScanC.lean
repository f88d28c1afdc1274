/- Contracts of what tells a rune's class. -/
import Derived.Test.YtboagdmjibdlhaaDoorScanA
import Derived.Test.YtboagdmjibdlhaaDoorValQ
namespace Go.Proofs.YtboagdmjibdlhaaDoor
set_option maxRecDepth 100000
open Go.RowKit

theorem letter_any (c : Nat) (h : c ≤ 2147483647) (w : World) : Calls Tryd.prog 41 #[.int .i32 (c : Int)] w fun e w' => e = .returned (.bool (cls c == 3)) ∧ w = w' := by
  have hcase : c = 32 ∨ c = 9 ∨ c = 10 ∨ c = 95 ∨ c = 96 ∨ c = 65533 ∨ (c < 65 ∧ c ≠ 32 ∧ c ≠ 9 ∧ c ≠ 10 ∧ (c < 33) ) ∨ (33 ≤ c ∧ c ≤ 47) ∨ (48 ≤ c ∧ c ≤ 57) ∨ (58 ≤ c ∧ c ≤ 64) ∨ (65 ≤ c ∧ c ≤ 90) ∨ (91 ≤ c ∧ c ≤ 94) ∨ (97 ≤ c ∧ c ≤ 122) ∨ (123 ≤ c ∧ c ≤ 126) ∨ (127 ≤ c ∧ c ≤ 191) ∨ (192 ≤ c ∧ c ≠ 65533) := by omega
  rcases hcase with rfl | rfl | rfl | rfl | rfl | rfl | hc | hc | hc | hc | hc | hc | hc | hc | hc | hc
  · -- 32
    go_enter Tryd.func41, Tryd.ntmps41
    go_wp2
    go_ret
    exact ⟨rfl, rfl⟩
  · -- 9
    go_enter Tryd.func41, Tryd.ntmps41
    go_wp2
    go_ret
    exact ⟨rfl, rfl⟩
  · -- 10
    go_enter Tryd.func41, Tryd.ntmps41
    go_wp2
    go_ret
    exact ⟨rfl, rfl⟩
  · -- 95
    go_enter Tryd.func41, Tryd.ntmps41
    go_wp2
    go_ret
    exact ⟨rfl, rfl⟩
  · -- 96
    go_enter Tryd.func41, Tryd.ntmps41
    go_wp2
    go_ret
    exact ⟨rfl, rfl⟩
  · -- 65533
    go_enter Tryd.func41, Tryd.ntmps41
    go_wp2
    go_ret
    exact ⟨rfl, rfl⟩
  · -- c < 65 ∧ c ≠ 32 ∧ c ≠ 9 ∧ c ≠ 10 ∧ (c < 33) 
    have hk : cls c = 0 := by
      unfold cls; repeat' split
      all_goals omega
    rw [show (cls c == 3) = false by rw [hk]; rfl]
    clear hk
    first | (have d97 : decide ((97 : Int) ≤ (c : Int)) = false := decide_eq_false (by omega)) | skip
    first | (have d65 : decide ((65 : Int) ≤ (c : Int)) = false := decide_eq_false (by omega)) | skip
    first | (have d192 : decide ((192 : Int) ≤ (c : Int)) = false := decide_eq_false (by omega)) | skip
    first | (have d122 : decide ((c : Int) ≤ 122) = false := decide_eq_false (by omega)) | skip
    first | (have d90 : decide ((c : Int) ≤ 90) = false := decide_eq_false (by omega)) | skip
    have e95 : ((c : Int) == 95) = false := beq_eq_false_iff_ne.2 (by omega)
    have e65533 : ((c : Int) != 65533) = true := by rw [bne_iff_ne]; omega
    go_enter Tryd.func41, Tryd.ntmps41
    go_wp2
    go_ret
    exact ⟨rfl, rfl⟩
  · -- 33 ≤ c ∧ c ≤ 47
    have hk : cls c = 4 := by
      unfold cls; repeat' split
      all_goals omega
    rw [show (cls c == 3) = false by rw [hk]; rfl]
    clear hk
    first | (have d97 : decide ((97 : Int) ≤ (c : Int)) = false := decide_eq_false (by omega)) | skip
    first | (have d65 : decide ((65 : Int) ≤ (c : Int)) = false := decide_eq_false (by omega)) | skip
    first | (have d192 : decide ((192 : Int) ≤ (c : Int)) = false := decide_eq_false (by omega)) | skip
    first | (have d122 : decide ((c : Int) ≤ 122) = false := decide_eq_false (by omega)) | skip
    first | (have d90 : decide ((c : Int) ≤ 90) = false := decide_eq_false (by omega)) | skip
    have e95 : ((c : Int) == 95) = false := beq_eq_false_iff_ne.2 (by omega)
    have e65533 : ((c : Int) != 65533) = true := by rw [bne_iff_ne]; omega
    go_enter Tryd.func41, Tryd.ntmps41
    go_wp2
    go_ret
    exact ⟨rfl, rfl⟩
  · -- 48 ≤ c ∧ c ≤ 57
    have hk : cls c = 2 := by
      unfold cls; repeat' split
      all_goals omega
    rw [show (cls c == 3) = false by rw [hk]; rfl]
    clear hk
    first | (have d97 : decide ((97 : Int) ≤ (c : Int)) = false := decide_eq_false (by omega)) | skip
    first | (have d65 : decide ((65 : Int) ≤ (c : Int)) = false := decide_eq_false (by omega)) | skip
    first | (have d192 : decide ((192 : Int) ≤ (c : Int)) = false := decide_eq_false (by omega)) | skip
    first | (have d122 : decide ((c : Int) ≤ 122) = false := decide_eq_false (by omega)) | skip
    first | (have d90 : decide ((c : Int) ≤ 90) = false := decide_eq_false (by omega)) | skip
    have e95 : ((c : Int) == 95) = false := beq_eq_false_iff_ne.2 (by omega)
    have e65533 : ((c : Int) != 65533) = true := by rw [bne_iff_ne]; omega
    go_enter Tryd.func41, Tryd.ntmps41
    go_wp2
    go_ret
    exact ⟨rfl, rfl⟩
  · -- 58 ≤ c ∧ c ≤ 64
    have hk : cls c = 4 := by
      unfold cls; repeat' split
      all_goals omega
    rw [show (cls c == 3) = false by rw [hk]; rfl]
    clear hk
    first | (have d97 : decide ((97 : Int) ≤ (c : Int)) = false := decide_eq_false (by omega)) | skip
    first | (have d65 : decide ((65 : Int) ≤ (c : Int)) = false := decide_eq_false (by omega)) | skip
    first | (have d192 : decide ((192 : Int) ≤ (c : Int)) = false := decide_eq_false (by omega)) | skip
    first | (have d122 : decide ((c : Int) ≤ 122) = false := decide_eq_false (by omega)) | skip
    first | (have d90 : decide ((c : Int) ≤ 90) = false := decide_eq_false (by omega)) | skip
    have e95 : ((c : Int) == 95) = false := beq_eq_false_iff_ne.2 (by omega)
    have e65533 : ((c : Int) != 65533) = true := by rw [bne_iff_ne]; omega
    go_enter Tryd.func41, Tryd.ntmps41
    go_wp2
    go_ret
    exact ⟨rfl, rfl⟩
  · -- 65 ≤ c ∧ c ≤ 90
    have hk : cls c = 3 := by
      unfold cls; repeat' split
      all_goals omega
    rw [show (cls c == 3) = true by rw [hk]; rfl]
    clear hk
    first | (have d97 : decide ((97 : Int) ≤ (c : Int)) = false := decide_eq_false (by omega)) | skip
    first | (have d65 : decide ((65 : Int) ≤ (c : Int)) = false := decide_eq_false (by omega)) | skip
    first | (have d192 : decide ((192 : Int) ≤ (c : Int)) = false := decide_eq_false (by omega)) | skip
    first | (have d122 : decide ((c : Int) ≤ 122) = false := decide_eq_false (by omega)) | skip
    first | (have d90 : decide ((c : Int) ≤ 90) = false := decide_eq_false (by omega)) | skip
    have e95 : ((c : Int) == 95) = false := beq_eq_false_iff_ne.2 (by omega)
    have e65533 : ((c : Int) != 65533) = true := by rw [bne_iff_ne]; omega
    go_enter Tryd.func41, Tryd.ntmps41
    go_wp2
    go_ret
    exact ⟨rfl, rfl⟩
  · -- 91 ≤ c ∧ c ≤ 94
    have hk : cls c = 4 := by
      unfold cls; repeat' split
      all_goals omega
    rw [show (cls c == 3) = false by rw [hk]; rfl]
    clear hk
    first | (have d97 : decide ((97 : Int) ≤ (c : Int)) = false := decide_eq_false (by omega)) | skip
    first | (have d65 : decide ((65 : Int) ≤ (c : Int)) = false := decide_eq_false (by omega)) | skip
    first | (have d192 : decide ((192 : Int) ≤ (c : Int)) = false := decide_eq_false (by omega)) | skip
    first | (have d122 : decide ((c : Int) ≤ 122) = false := decide_eq_false (by omega)) | skip
    first | (have d90 : decide ((c : Int) ≤ 90) = false := decide_eq_false (by omega)) | skip
    have e95 : ((c : Int) == 95) = false := beq_eq_false_iff_ne.2 (by omega)
    have e65533 : ((c : Int) != 65533) = true := by rw [bne_iff_ne]; omega
    go_enter Tryd.func41, Tryd.ntmps41
    go_wp2
    go_ret
    exact ⟨rfl, rfl⟩
  · -- 97 ≤ c ∧ c ≤ 122
    have hk : cls c = 3 := by
      unfold cls; repeat' split
      all_goals omega
    rw [show (cls c == 3) = true by rw [hk]; rfl]
    clear hk
    first | (have d97 : decide ((97 : Int) ≤ (c : Int)) = false := decide_eq_false (by omega)) | skip
    first | (have d65 : decide ((65 : Int) ≤ (c : Int)) = false := decide_eq_false (by omega)) | skip
    first | (have d192 : decide ((192 : Int) ≤ (c : Int)) = false := decide_eq_false (by omega)) | skip
    first | (have d122 : decide ((c : Int) ≤ 122) = false := decide_eq_false (by omega)) | skip
    first | (have d90 : decide ((c : Int) ≤ 90) = false := decide_eq_false (by omega)) | skip
    have e95 : ((c : Int) == 95) = false := beq_eq_false_iff_ne.2 (by omega)
    have e65533 : ((c : Int) != 65533) = true := by rw [bne_iff_ne]; omega
    go_enter Tryd.func41, Tryd.ntmps41
    go_wp2
    go_ret
    exact ⟨rfl, rfl⟩
  · -- 123 ≤ c ∧ c ≤ 126
    have hk : cls c = 4 := by
      unfold cls; repeat' split
      all_goals omega
    rw [show (cls c == 3) = false by rw [hk]; rfl]
    clear hk
    first | (have d97 : decide ((97 : Int) ≤ (c : Int)) = false := decide_eq_false (by omega)) | skip
    first | (have d65 : decide ((65 : Int) ≤ (c : Int)) = false := decide_eq_false (by omega)) | skip
    first | (have d192 : decide ((192 : Int) ≤ (c : Int)) = false := decide_eq_false (by omega)) | skip
    first | (have d122 : decide ((c : Int) ≤ 122) = false := decide_eq_false (by omega)) | skip
    first | (have d90 : decide ((c : Int) ≤ 90) = false := decide_eq_false (by omega)) | skip
    have e95 : ((c : Int) == 95) = false := beq_eq_false_iff_ne.2 (by omega)
    have e65533 : ((c : Int) != 65533) = true := by rw [bne_iff_ne]; omega
    go_enter Tryd.func41, Tryd.ntmps41
    go_wp2
    go_ret
    exact ⟨rfl, rfl⟩
  · -- 127 ≤ c ∧ c ≤ 191
    have hk : cls c = 0 := by
      unfold cls; repeat' split
      all_goals omega
    rw [show (cls c == 3) = false by rw [hk]; rfl]
    clear hk
    first | (have d97 : decide ((97 : Int) ≤ (c : Int)) = false := decide_eq_false (by omega)) | skip
    first | (have d65 : decide ((65 : Int) ≤ (c : Int)) = false := decide_eq_false (by omega)) | skip
    first | (have d192 : decide ((192 : Int) ≤ (c : Int)) = false := decide_eq_false (by omega)) | skip
    first | (have d122 : decide ((c : Int) ≤ 122) = false := decide_eq_false (by omega)) | skip
    first | (have d90 : decide ((c : Int) ≤ 90) = false := decide_eq_false (by omega)) | skip
    have e95 : ((c : Int) == 95) = false := beq_eq_false_iff_ne.2 (by omega)
    have e65533 : ((c : Int) != 65533) = true := by rw [bne_iff_ne]; omega
    go_enter Tryd.func41, Tryd.ntmps41
    go_wp2
    go_ret
    exact ⟨rfl, rfl⟩
  · -- 192 ≤ c ∧ c ≠ 65533
    have hk : cls c = 3 := by
      unfold cls; repeat' split
      all_goals omega
    rw [show (cls c == 3) = true by rw [hk]; rfl]
    clear hk
    first | (have d97 : decide ((97 : Int) ≤ (c : Int)) = false := decide_eq_false (by omega)) | skip
    first | (have d65 : decide ((65 : Int) ≤ (c : Int)) = false := decide_eq_false (by omega)) | skip
    first | (have d192 : decide ((192 : Int) ≤ (c : Int)) = false := decide_eq_false (by omega)) | skip
    first | (have d122 : decide ((c : Int) ≤ 122) = false := decide_eq_false (by omega)) | skip
    first | (have d90 : decide ((c : Int) ≤ 90) = false := decide_eq_false (by omega)) | skip
    have e95 : ((c : Int) == 95) = false := beq_eq_false_iff_ne.2 (by omega)
    have e65533 : ((c : Int) != 65533) = true := by rw [bne_iff_ne]; omega
    go_enter Tryd.func41, Tryd.ntmps41
    go_wp2
    go_ret
    exact ⟨rfl, rfl⟩

theorem class_any (c : Nat) (h : c ≤ 2147483647) (w : World) : Calls Tryd.prog 20 #[.int .i32 (c : Int)] w fun e w' => e = .returned (.int .i64 (cls c : Int)) ∧ w = w' := by
  have hcase : c = 32 ∨ c = 9 ∨ c = 10 ∨ c = 95 ∨ c = 96 ∨ c = 65533 ∨ (c < 9 ∨ (11 ≤ c ∧ c ≤ 31)) ∨ (33 ≤ c ∧ c ≤ 47) ∨ (48 ≤ c ∧ c ≤ 57) ∨ (58 ≤ c ∧ c ≤ 64) ∨ (65 ≤ c ∧ c ≤ 90) ∨ (91 ≤ c ∧ c ≤ 94) ∨ (97 ≤ c ∧ c ≤ 122) ∨ (123 ≤ c ∧ c ≤ 126) ∨ (127 ≤ c ∧ c ≤ 191) ∨ (192 ≤ c ∧ c ≠ 65533) := by omega
  rcases hcase with rfl | rfl | rfl | rfl | rfl | rfl | hc | hc | hc | hc | hc | hc | hc | hc | hc | hc
  · -- 32
    have L := letter_any 32 (by omega)
    rw [show (cls 32 == 3) = false from rfl] at L
    go_enter Tryd.func20, Tryd.ntmps20
    go_wp2_with (refine (L _).mono ?_; rintro e w1 ⟨rfl, rfl⟩)
    go_ret
    exact ⟨rfl, rfl⟩
  · -- 9
    have L := letter_any 9 (by omega)
    rw [show (cls 9 == 3) = false from rfl] at L
    go_enter Tryd.func20, Tryd.ntmps20
    go_wp2_with (refine (L _).mono ?_; rintro e w1 ⟨rfl, rfl⟩)
    go_ret
    exact ⟨rfl, rfl⟩
  · -- 10
    have L := letter_any 10 (by omega)
    rw [show (cls 10 == 3) = false from rfl] at L
    go_enter Tryd.func20, Tryd.ntmps20
    go_wp2_with (refine (L _).mono ?_; rintro e w1 ⟨rfl, rfl⟩)
    go_ret
    exact ⟨rfl, rfl⟩
  · -- 95
    have L := letter_any 95 (by omega)
    rw [show (cls 95 == 3) = true from rfl] at L
    go_enter Tryd.func20, Tryd.ntmps20
    go_wp2_with (refine (L _).mono ?_; rintro e w1 ⟨rfl, rfl⟩)
    go_ret
    exact ⟨rfl, rfl⟩
  · -- 96
    have L := letter_any 96 (by omega)
    rw [show (cls 96 == 3) = false from rfl] at L
    go_enter Tryd.func20, Tryd.ntmps20
    go_wp2_with (refine (L _).mono ?_; rintro e w1 ⟨rfl, rfl⟩)
    go_ret
    exact ⟨rfl, rfl⟩
  · -- 65533
    have L := letter_any 65533 (by omega)
    rw [show (cls 65533 == 3) = false from rfl] at L
    go_enter Tryd.func20, Tryd.ntmps20
    go_wp2_with (refine (L _).mono ?_; rintro e w1 ⟨rfl, rfl⟩)
    go_ret
    exact ⟨rfl, rfl⟩
  · -- c < 9 ∨ (11 ≤ c ∧ c ≤ 31)
    have hk : cls c = 0 := by
      unfold cls; repeat' split
      all_goals omega
    have L := letter_any c h
    rw [show (cls c == 3) = false by rw [hk]; rfl] at L
    rw [hk]
    clear hk
    first | (have d48 : decide ((48 : Int) ≤ (c : Int)) = false := decide_eq_false (by omega)) | skip
    first | (have d33 : decide ((33 : Int) ≤ (c : Int)) = false := decide_eq_false (by omega)) | skip
    first | (have d57 : decide ((c : Int) ≤ 57) = false := decide_eq_false (by omega)) | skip
    first | (have d126 : decide ((c : Int) ≤ 126) = false := decide_eq_false (by omega)) | skip
    have e32 : ((c : Int) == 32) = false := beq_eq_false_iff_ne.2 (by omega)
    have e9 : ((c : Int) == 9) = false := beq_eq_false_iff_ne.2 (by omega)
    have e10 : ((c : Int) == 10) = false := beq_eq_false_iff_ne.2 (by omega)
    go_enter Tryd.func20, Tryd.ntmps20
    go_wp2_with (refine (L _).mono ?_; rintro e w1 ⟨rfl, rfl⟩)
    go_ret
    exact ⟨rfl, rfl⟩
  · -- 33 ≤ c ∧ c ≤ 47
    have hk : cls c = 4 := by
      unfold cls; repeat' split
      all_goals omega
    have L := letter_any c h
    rw [show (cls c == 3) = false by rw [hk]; rfl] at L
    rw [hk]
    clear hk
    first | (have d48 : decide ((48 : Int) ≤ (c : Int)) = false := decide_eq_false (by omega)) | skip
    first | (have d33 : decide ((33 : Int) ≤ (c : Int)) = false := decide_eq_false (by omega)) | skip
    first | (have d57 : decide ((c : Int) ≤ 57) = false := decide_eq_false (by omega)) | skip
    first | (have d126 : decide ((c : Int) ≤ 126) = false := decide_eq_false (by omega)) | skip
    have e32 : ((c : Int) == 32) = false := beq_eq_false_iff_ne.2 (by omega)
    have e9 : ((c : Int) == 9) = false := beq_eq_false_iff_ne.2 (by omega)
    have e10 : ((c : Int) == 10) = false := beq_eq_false_iff_ne.2 (by omega)
    go_enter Tryd.func20, Tryd.ntmps20
    go_wp2_with (refine (L _).mono ?_; rintro e w1 ⟨rfl, rfl⟩)
    go_ret
    exact ⟨rfl, rfl⟩
  · -- 48 ≤ c ∧ c ≤ 57
    have hk : cls c = 2 := by
      unfold cls; repeat' split
      all_goals omega
    have L := letter_any c h
    rw [show (cls c == 3) = false by rw [hk]; rfl] at L
    rw [hk]
    clear hk
    first | (have d48 : decide ((48 : Int) ≤ (c : Int)) = false := decide_eq_false (by omega)) | skip
    first | (have d33 : decide ((33 : Int) ≤ (c : Int)) = false := decide_eq_false (by omega)) | skip
    first | (have d57 : decide ((c : Int) ≤ 57) = false := decide_eq_false (by omega)) | skip
    first | (have d126 : decide ((c : Int) ≤ 126) = false := decide_eq_false (by omega)) | skip
    have e32 : ((c : Int) == 32) = false := beq_eq_false_iff_ne.2 (by omega)
    have e9 : ((c : Int) == 9) = false := beq_eq_false_iff_ne.2 (by omega)
    have e10 : ((c : Int) == 10) = false := beq_eq_false_iff_ne.2 (by omega)
    go_enter Tryd.func20, Tryd.ntmps20
    go_wp2_with (refine (L _).mono ?_; rintro e w1 ⟨rfl, rfl⟩)
    go_ret
    exact ⟨rfl, rfl⟩
  · -- 58 ≤ c ∧ c ≤ 64
    have hk : cls c = 4 := by
      unfold cls; repeat' split
      all_goals omega
    have L := letter_any c h
    rw [show (cls c == 3) = false by rw [hk]; rfl] at L
    rw [hk]
    clear hk
    first | (have d48 : decide ((48 : Int) ≤ (c : Int)) = false := decide_eq_false (by omega)) | skip
    first | (have d33 : decide ((33 : Int) ≤ (c : Int)) = false := decide_eq_false (by omega)) | skip
    first | (have d57 : decide ((c : Int) ≤ 57) = false := decide_eq_false (by omega)) | skip
    first | (have d126 : decide ((c : Int) ≤ 126) = false := decide_eq_false (by omega)) | skip
    have e32 : ((c : Int) == 32) = false := beq_eq_false_iff_ne.2 (by omega)
    have e9 : ((c : Int) == 9) = false := beq_eq_false_iff_ne.2 (by omega)
    have e10 : ((c : Int) == 10) = false := beq_eq_false_iff_ne.2 (by omega)
    go_enter Tryd.func20, Tryd.ntmps20
    go_wp2_with (refine (L _).mono ?_; rintro e w1 ⟨rfl, rfl⟩)
    go_ret
    exact ⟨rfl, rfl⟩
  · -- 65 ≤ c ∧ c ≤ 90
    have hk : cls c = 3 := by
      unfold cls; repeat' split
      all_goals omega
    have L := letter_any c h
    rw [show (cls c == 3) = true by rw [hk]; rfl] at L
    rw [hk]
    clear hk
    first | (have d48 : decide ((48 : Int) ≤ (c : Int)) = false := decide_eq_false (by omega)) | skip
    first | (have d33 : decide ((33 : Int) ≤ (c : Int)) = false := decide_eq_false (by omega)) | skip
    first | (have d57 : decide ((c : Int) ≤ 57) = false := decide_eq_false (by omega)) | skip
    first | (have d126 : decide ((c : Int) ≤ 126) = false := decide_eq_false (by omega)) | skip
    have e32 : ((c : Int) == 32) = false := beq_eq_false_iff_ne.2 (by omega)
    have e9 : ((c : Int) == 9) = false := beq_eq_false_iff_ne.2 (by omega)
    have e10 : ((c : Int) == 10) = false := beq_eq_false_iff_ne.2 (by omega)
    go_enter Tryd.func20, Tryd.ntmps20
    go_wp2_with (refine (L _).mono ?_; rintro e w1 ⟨rfl, rfl⟩)
    go_ret
    exact ⟨rfl, rfl⟩
  · -- 91 ≤ c ∧ c ≤ 94
    have hk : cls c = 4 := by
      unfold cls; repeat' split
      all_goals omega
    have L := letter_any c h
    rw [show (cls c == 3) = false by rw [hk]; rfl] at L
    rw [hk]
    clear hk
    first | (have d48 : decide ((48 : Int) ≤ (c : Int)) = false := decide_eq_false (by omega)) | skip
    first | (have d33 : decide ((33 : Int) ≤ (c : Int)) = false := decide_eq_false (by omega)) | skip
    first | (have d57 : decide ((c : Int) ≤ 57) = false := decide_eq_false (by omega)) | skip
    first | (have d126 : decide ((c : Int) ≤ 126) = false := decide_eq_false (by omega)) | skip
    have e32 : ((c : Int) == 32) = false := beq_eq_false_iff_ne.2 (by omega)
    have e9 : ((c : Int) == 9) = false := beq_eq_false_iff_ne.2 (by omega)
    have e10 : ((c : Int) == 10) = false := beq_eq_false_iff_ne.2 (by omega)
    go_enter Tryd.func20, Tryd.ntmps20
    go_wp2_with (refine (L _).mono ?_; rintro e w1 ⟨rfl, rfl⟩)
    go_ret
    exact ⟨rfl, rfl⟩
  · -- 97 ≤ c ∧ c ≤ 122
    have hk : cls c = 3 := by
      unfold cls; repeat' split
      all_goals omega
    have L := letter_any c h
    rw [show (cls c == 3) = true by rw [hk]; rfl] at L
    rw [hk]
    clear hk
    first | (have d48 : decide ((48 : Int) ≤ (c : Int)) = false := decide_eq_false (by omega)) | skip
    first | (have d33 : decide ((33 : Int) ≤ (c : Int)) = false := decide_eq_false (by omega)) | skip
    first | (have d57 : decide ((c : Int) ≤ 57) = false := decide_eq_false (by omega)) | skip
    first | (have d126 : decide ((c : Int) ≤ 126) = false := decide_eq_false (by omega)) | skip
    have e32 : ((c : Int) == 32) = false := beq_eq_false_iff_ne.2 (by omega)
    have e9 : ((c : Int) == 9) = false := beq_eq_false_iff_ne.2 (by omega)
    have e10 : ((c : Int) == 10) = false := beq_eq_false_iff_ne.2 (by omega)
    go_enter Tryd.func20, Tryd.ntmps20
    go_wp2_with (refine (L _).mono ?_; rintro e w1 ⟨rfl, rfl⟩)
    go_ret
    exact ⟨rfl, rfl⟩
  · -- 123 ≤ c ∧ c ≤ 126
    have hk : cls c = 4 := by
      unfold cls; repeat' split
      all_goals omega
    have L := letter_any c h
    rw [show (cls c == 3) = false by rw [hk]; rfl] at L
    rw [hk]
    clear hk
    first | (have d48 : decide ((48 : Int) ≤ (c : Int)) = false := decide_eq_false (by omega)) | skip
    first | (have d33 : decide ((33 : Int) ≤ (c : Int)) = false := decide_eq_false (by omega)) | skip
    first | (have d57 : decide ((c : Int) ≤ 57) = false := decide_eq_false (by omega)) | skip
    first | (have d126 : decide ((c : Int) ≤ 126) = false := decide_eq_false (by omega)) | skip
    have e32 : ((c : Int) == 32) = false := beq_eq_false_iff_ne.2 (by omega)
    have e9 : ((c : Int) == 9) = false := beq_eq_false_iff_ne.2 (by omega)
    have e10 : ((c : Int) == 10) = false := beq_eq_false_iff_ne.2 (by omega)
    go_enter Tryd.func20, Tryd.ntmps20
    go_wp2_with (refine (L _).mono ?_; rintro e w1 ⟨rfl, rfl⟩)
    go_ret
    exact ⟨rfl, rfl⟩
  · -- 127 ≤ c ∧ c ≤ 191
    have hk : cls c = 0 := by
      unfold cls; repeat' split
      all_goals omega
    have L := letter_any c h
    rw [show (cls c == 3) = false by rw [hk]; rfl] at L
    rw [hk]
    clear hk
    first | (have d48 : decide ((48 : Int) ≤ (c : Int)) = false := decide_eq_false (by omega)) | skip
    first | (have d33 : decide ((33 : Int) ≤ (c : Int)) = false := decide_eq_false (by omega)) | skip
    first | (have d57 : decide ((c : Int) ≤ 57) = false := decide_eq_false (by omega)) | skip
    first | (have d126 : decide ((c : Int) ≤ 126) = false := decide_eq_false (by omega)) | skip
    have e32 : ((c : Int) == 32) = false := beq_eq_false_iff_ne.2 (by omega)
    have e9 : ((c : Int) == 9) = false := beq_eq_false_iff_ne.2 (by omega)
    have e10 : ((c : Int) == 10) = false := beq_eq_false_iff_ne.2 (by omega)
    go_enter Tryd.func20, Tryd.ntmps20
    go_wp2_with (refine (L _).mono ?_; rintro e w1 ⟨rfl, rfl⟩)
    go_ret
    exact ⟨rfl, rfl⟩
  · -- 192 ≤ c ∧ c ≠ 65533
    have hk : cls c = 3 := by
      unfold cls; repeat' split
      all_goals omega
    have L := letter_any c h
    rw [show (cls c == 3) = true by rw [hk]; rfl] at L
    rw [hk]
    clear hk
    first | (have d48 : decide ((48 : Int) ≤ (c : Int)) = false := decide_eq_false (by omega)) | skip
    first | (have d33 : decide ((33 : Int) ≤ (c : Int)) = false := decide_eq_false (by omega)) | skip
    first | (have d57 : decide ((c : Int) ≤ 57) = false := decide_eq_false (by omega)) | skip
    first | (have d126 : decide ((c : Int) ≤ 126) = false := decide_eq_false (by omega)) | skip
    have e32 : ((c : Int) == 32) = false := beq_eq_false_iff_ne.2 (by omega)
    have e9 : ((c : Int) == 9) = false := beq_eq_false_iff_ne.2 (by omega)
    have e10 : ((c : Int) == 10) = false := beq_eq_false_iff_ne.2 (by omega)
    go_enter Tryd.func20, Tryd.ntmps20
    go_wp2_with (refine (L _).mono ?_; rintro e w1 ⟨rfl, rfl⟩)
    go_ret
    exact ⟨rfl, rfl⟩

theorem refclass_any (c : Nat) (h : c ≤ 2147483647) (w : World) : Calls Tryd.prog 21 #[.int .i64 (c : Int)] w fun e w' => e = .returned (.int .i64 (cls c : Int)) ∧ w = w' := by
  have hcase : c = 32 ∨ c = 9 ∨ c = 10 ∨ c = 95 ∨ c = 96 ∨ c = 65533 ∨ (c < 9 ∨ (11 ≤ c ∧ c ≤ 31)) ∨ (33 ≤ c ∧ c ≤ 47) ∨ (48 ≤ c ∧ c ≤ 57) ∨ (58 ≤ c ∧ c ≤ 64) ∨ (65 ≤ c ∧ c ≤ 90) ∨ (91 ≤ c ∧ c ≤ 94) ∨ (97 ≤ c ∧ c ≤ 122) ∨ (123 ≤ c ∧ c ≤ 126) ∨ (127 ≤ c ∧ c ≤ 191) ∨ (192 ≤ c ∧ c ≠ 65533) := by omega
  rcases hcase with rfl | rfl | rfl | rfl | rfl | rfl | hc | hc | hc | hc | hc | hc | hc | hc | hc | hc
  · -- 32
    go_enter Tryd.func21, Tryd.ntmps21
    go_wp2
    go_ret
    exact ⟨rfl, rfl⟩
  · -- 9
    go_enter Tryd.func21, Tryd.ntmps21
    go_wp2
    go_ret
    exact ⟨rfl, rfl⟩
  · -- 10
    go_enter Tryd.func21, Tryd.ntmps21
    go_wp2
    go_ret
    exact ⟨rfl, rfl⟩
  · -- 95
    go_enter Tryd.func21, Tryd.ntmps21
    go_wp2
    go_ret
    exact ⟨rfl, rfl⟩
  · -- 96
    go_enter Tryd.func21, Tryd.ntmps21
    go_wp2
    go_ret
    exact ⟨rfl, rfl⟩
  · -- 65533
    go_enter Tryd.func21, Tryd.ntmps21
    go_wp2
    go_ret
    exact ⟨rfl, rfl⟩
  · -- c < 9 ∨ (11 ≤ c ∧ c ≤ 31)
    have hk : cls c = 0 := by
      unfold cls; repeat' split
      all_goals omega
    rw [hk]
    clear hk
    first | (have d97 : decide ((97 : Int) ≤ (c : Int)) = false := decide_eq_false (by omega)) | skip
    first | (have d65 : decide ((65 : Int) ≤ (c : Int)) = false := decide_eq_false (by omega)) | skip
    first | (have d192 : decide ((192 : Int) ≤ (c : Int)) = false := decide_eq_false (by omega)) | skip
    first | (have d48 : decide ((48 : Int) ≤ (c : Int)) = false := decide_eq_false (by omega)) | skip
    first | (have d33 : decide ((33 : Int) ≤ (c : Int)) = false := decide_eq_false (by omega)) | skip
    first | (have d122 : decide ((c : Int) ≤ 122) = false := decide_eq_false (by omega)) | skip
    first | (have d90 : decide ((c : Int) ≤ 90) = false := decide_eq_false (by omega)) | skip
    first | (have d57 : decide ((c : Int) ≤ 57) = false := decide_eq_false (by omega)) | skip
    first | (have d126 : decide ((c : Int) ≤ 126) = false := decide_eq_false (by omega)) | skip
    have e32 : ((c : Int) == 32) = false := beq_eq_false_iff_ne.2 (by omega)
    have e9 : ((c : Int) == 9) = false := beq_eq_false_iff_ne.2 (by omega)
    have e10 : ((c : Int) == 10) = false := beq_eq_false_iff_ne.2 (by omega)
    have e95 : ((c : Int) == 95) = false := beq_eq_false_iff_ne.2 (by omega)
    have e65533 : ((c : Int) != 65533) = true := by rw [bne_iff_ne]; omega
    go_enter Tryd.func21, Tryd.ntmps21
    go_wp2
    go_ret
    exact ⟨rfl, rfl⟩
  · -- 33 ≤ c ∧ c ≤ 47
    have hk : cls c = 4 := by
      unfold cls; repeat' split
      all_goals omega
    rw [hk]
    clear hk
    first | (have d97 : decide ((97 : Int) ≤ (c : Int)) = false := decide_eq_false (by omega)) | skip
    first | (have d65 : decide ((65 : Int) ≤ (c : Int)) = false := decide_eq_false (by omega)) | skip
    first | (have d192 : decide ((192 : Int) ≤ (c : Int)) = false := decide_eq_false (by omega)) | skip
    first | (have d48 : decide ((48 : Int) ≤ (c : Int)) = false := decide_eq_false (by omega)) | skip
    first | (have d33 : decide ((33 : Int) ≤ (c : Int)) = false := decide_eq_false (by omega)) | skip
    first | (have d122 : decide ((c : Int) ≤ 122) = false := decide_eq_false (by omega)) | skip
    first | (have d90 : decide ((c : Int) ≤ 90) = false := decide_eq_false (by omega)) | skip
    first | (have d57 : decide ((c : Int) ≤ 57) = false := decide_eq_false (by omega)) | skip
    first | (have d126 : decide ((c : Int) ≤ 126) = false := decide_eq_false (by omega)) | skip
    have e32 : ((c : Int) == 32) = false := beq_eq_false_iff_ne.2 (by omega)
    have e9 : ((c : Int) == 9) = false := beq_eq_false_iff_ne.2 (by omega)
    have e10 : ((c : Int) == 10) = false := beq_eq_false_iff_ne.2 (by omega)
    have e95 : ((c : Int) == 95) = false := beq_eq_false_iff_ne.2 (by omega)
    have e65533 : ((c : Int) != 65533) = true := by rw [bne_iff_ne]; omega
    go_enter Tryd.func21, Tryd.ntmps21
    go_wp2
    go_ret
    exact ⟨rfl, rfl⟩
  · -- 48 ≤ c ∧ c ≤ 57
    have hk : cls c = 2 := by
      unfold cls; repeat' split
      all_goals omega
    rw [hk]
    clear hk
    first | (have d97 : decide ((97 : Int) ≤ (c : Int)) = false := decide_eq_false (by omega)) | skip
    first | (have d65 : decide ((65 : Int) ≤ (c : Int)) = false := decide_eq_false (by omega)) | skip
    first | (have d192 : decide ((192 : Int) ≤ (c : Int)) = false := decide_eq_false (by omega)) | skip
    first | (have d48 : decide ((48 : Int) ≤ (c : Int)) = false := decide_eq_false (by omega)) | skip
    first | (have d33 : decide ((33 : Int) ≤ (c : Int)) = false := decide_eq_false (by omega)) | skip
    first | (have d122 : decide ((c : Int) ≤ 122) = false := decide_eq_false (by omega)) | skip
    first | (have d90 : decide ((c : Int) ≤ 90) = false := decide_eq_false (by omega)) | skip
    first | (have d57 : decide ((c : Int) ≤ 57) = false := decide_eq_false (by omega)) | skip
    first | (have d126 : decide ((c : Int) ≤ 126) = false := decide_eq_false (by omega)) | skip
    have e32 : ((c : Int) == 32) = false := beq_eq_false_iff_ne.2 (by omega)
    have e9 : ((c : Int) == 9) = false := beq_eq_false_iff_ne.2 (by omega)
    have e10 : ((c : Int) == 10) = false := beq_eq_false_iff_ne.2 (by omega)
    have e95 : ((c : Int) == 95) = false := beq_eq_false_iff_ne.2 (by omega)
    have e65533 : ((c : Int) != 65533) = true := by rw [bne_iff_ne]; omega
    go_enter Tryd.func21, Tryd.ntmps21
    go_wp2
    go_ret
    exact ⟨rfl, rfl⟩
  · -- 58 ≤ c ∧ c ≤ 64
    have hk : cls c = 4 := by
      unfold cls; repeat' split
      all_goals omega
    rw [hk]
    clear hk
    first | (have d97 : decide ((97 : Int) ≤ (c : Int)) = false := decide_eq_false (by omega)) | skip
    first | (have d65 : decide ((65 : Int) ≤ (c : Int)) = false := decide_eq_false (by omega)) | skip
    first | (have d192 : decide ((192 : Int) ≤ (c : Int)) = false := decide_eq_false (by omega)) | skip
    first | (have d48 : decide ((48 : Int) ≤ (c : Int)) = false := decide_eq_false (by omega)) | skip
    first | (have d33 : decide ((33 : Int) ≤ (c : Int)) = false := decide_eq_false (by omega)) | skip
    first | (have d122 : decide ((c : Int) ≤ 122) = false := decide_eq_false (by omega)) | skip
    first | (have d90 : decide ((c : Int) ≤ 90) = false := decide_eq_false (by omega)) | skip
    first | (have d57 : decide ((c : Int) ≤ 57) = false := decide_eq_false (by omega)) | skip
    first | (have d126 : decide ((c : Int) ≤ 126) = false := decide_eq_false (by omega)) | skip
    have e32 : ((c : Int) == 32) = false := beq_eq_false_iff_ne.2 (by omega)
    have e9 : ((c : Int) == 9) = false := beq_eq_false_iff_ne.2 (by omega)
    have e10 : ((c : Int) == 10) = false := beq_eq_false_iff_ne.2 (by omega)
    have e95 : ((c : Int) == 95) = false := beq_eq_false_iff_ne.2 (by omega)
    have e65533 : ((c : Int) != 65533) = true := by rw [bne_iff_ne]; omega
    go_enter Tryd.func21, Tryd.ntmps21
    go_wp2
    go_ret
    exact ⟨rfl, rfl⟩
  · -- 65 ≤ c ∧ c ≤ 90
    have hk : cls c = 3 := by
      unfold cls; repeat' split
      all_goals omega
    rw [hk]
    clear hk
    first | (have d97 : decide ((97 : Int) ≤ (c : Int)) = false := decide_eq_false (by omega)) | skip
    first | (have d65 : decide ((65 : Int) ≤ (c : Int)) = false := decide_eq_false (by omega)) | skip
    first | (have d192 : decide ((192 : Int) ≤ (c : Int)) = false := decide_eq_false (by omega)) | skip
    first | (have d48 : decide ((48 : Int) ≤ (c : Int)) = false := decide_eq_false (by omega)) | skip
    first | (have d33 : decide ((33 : Int) ≤ (c : Int)) = false := decide_eq_false (by omega)) | skip
    first | (have d122 : decide ((c : Int) ≤ 122) = false := decide_eq_false (by omega)) | skip
    first | (have d90 : decide ((c : Int) ≤ 90) = false := decide_eq_false (by omega)) | skip
    first | (have d57 : decide ((c : Int) ≤ 57) = false := decide_eq_false (by omega)) | skip
    first | (have d126 : decide ((c : Int) ≤ 126) = false := decide_eq_false (by omega)) | skip
    have e32 : ((c : Int) == 32) = false := beq_eq_false_iff_ne.2 (by omega)
    have e9 : ((c : Int) == 9) = false := beq_eq_false_iff_ne.2 (by omega)
    have e10 : ((c : Int) == 10) = false := beq_eq_false_iff_ne.2 (by omega)
    have e95 : ((c : Int) == 95) = false := beq_eq_false_iff_ne.2 (by omega)
    have e65533 : ((c : Int) != 65533) = true := by rw [bne_iff_ne]; omega
    go_enter Tryd.func21, Tryd.ntmps21
    go_wp2
    go_ret
    exact ⟨rfl, rfl⟩
  · -- 91 ≤ c ∧ c ≤ 94
    have hk : cls c = 4 := by
      unfold cls; repeat' split
      all_goals omega
    rw [hk]
    clear hk
    first | (have d97 : decide ((97 : Int) ≤ (c : Int)) = false := decide_eq_false (by omega)) | skip
    first | (have d65 : decide ((65 : Int) ≤ (c : Int)) = false := decide_eq_false (by omega)) | skip
    first | (have d192 : decide ((192 : Int) ≤ (c : Int)) = false := decide_eq_false (by omega)) | skip
    first | (have d48 : decide ((48 : Int) ≤ (c : Int)) = false := decide_eq_false (by omega)) | skip
    first | (have d33 : decide ((33 : Int) ≤ (c : Int)) = false := decide_eq_false (by omega)) | skip
    first | (have d122 : decide ((c : Int) ≤ 122) = false := decide_eq_false (by omega)) | skip
    first | (have d90 : decide ((c : Int) ≤ 90) = false := decide_eq_false (by omega)) | skip
    first | (have d57 : decide ((c : Int) ≤ 57) = false := decide_eq_false (by omega)) | skip
    first | (have d126 : decide ((c : Int) ≤ 126) = false := decide_eq_false (by omega)) | skip
    have e32 : ((c : Int) == 32) = false := beq_eq_false_iff_ne.2 (by omega)
    have e9 : ((c : Int) == 9) = false := beq_eq_false_iff_ne.2 (by omega)
    have e10 : ((c : Int) == 10) = false := beq_eq_false_iff_ne.2 (by omega)
    have e95 : ((c : Int) == 95) = false := beq_eq_false_iff_ne.2 (by omega)
    have e65533 : ((c : Int) != 65533) = true := by rw [bne_iff_ne]; omega
    go_enter Tryd.func21, Tryd.ntmps21
    go_wp2
    go_ret
    exact ⟨rfl, rfl⟩
  · -- 97 ≤ c ∧ c ≤ 122
    have hk : cls c = 3 := by
      unfold cls; repeat' split
      all_goals omega
    rw [hk]
    clear hk
    first | (have d97 : decide ((97 : Int) ≤ (c : Int)) = false := decide_eq_false (by omega)) | skip
    first | (have d65 : decide ((65 : Int) ≤ (c : Int)) = false := decide_eq_false (by omega)) | skip
    first | (have d192 : decide ((192 : Int) ≤ (c : Int)) = false := decide_eq_false (by omega)) | skip
    first | (have d48 : decide ((48 : Int) ≤ (c : Int)) = false := decide_eq_false (by omega)) | skip
    first | (have d33 : decide ((33 : Int) ≤ (c : Int)) = false := decide_eq_false (by omega)) | skip
    first | (have d122 : decide ((c : Int) ≤ 122) = false := decide_eq_false (by omega)) | skip
    first | (have d90 : decide ((c : Int) ≤ 90) = false := decide_eq_false (by omega)) | skip
    first | (have d57 : decide ((c : Int) ≤ 57) = false := decide_eq_false (by omega)) | skip
    first | (have d126 : decide ((c : Int) ≤ 126) = false := decide_eq_false (by omega)) | skip
    have e32 : ((c : Int) == 32) = false := beq_eq_false_iff_ne.2 (by omega)
    have e9 : ((c : Int) == 9) = false := beq_eq_false_iff_ne.2 (by omega)
    have e10 : ((c : Int) == 10) = false := beq_eq_false_iff_ne.2 (by omega)
    have e95 : ((c : Int) == 95) = false := beq_eq_false_iff_ne.2 (by omega)
    have e65533 : ((c : Int) != 65533) = true := by rw [bne_iff_ne]; omega
    go_enter Tryd.func21, Tryd.ntmps21
    go_wp2
    go_ret
    exact ⟨rfl, rfl⟩
  · -- 123 ≤ c ∧ c ≤ 126
    have hk : cls c = 4 := by
      unfold cls; repeat' split
      all_goals omega
    rw [hk]
    clear hk
    first | (have d97 : decide ((97 : Int) ≤ (c : Int)) = false := decide_eq_false (by omega)) | skip
    first | (have d65 : decide ((65 : Int) ≤ (c : Int)) = false := decide_eq_false (by omega)) | skip
    first | (have d192 : decide ((192 : Int) ≤ (c : Int)) = false := decide_eq_false (by omega)) | skip
    first | (have d48 : decide ((48 : Int) ≤ (c : Int)) = false := decide_eq_false (by omega)) | skip
    first | (have d33 : decide ((33 : Int) ≤ (c : Int)) = false := decide_eq_false (by omega)) | skip
    first | (have d122 : decide ((c : Int) ≤ 122) = false := decide_eq_false (by omega)) | skip
    first | (have d90 : decide ((c : Int) ≤ 90) = false := decide_eq_false (by omega)) | skip
    first | (have d57 : decide ((c : Int) ≤ 57) = false := decide_eq_false (by omega)) | skip
    first | (have d126 : decide ((c : Int) ≤ 126) = false := decide_eq_false (by omega)) | skip
    have e32 : ((c : Int) == 32) = false := beq_eq_false_iff_ne.2 (by omega)
    have e9 : ((c : Int) == 9) = false := beq_eq_false_iff_ne.2 (by omega)
    have e10 : ((c : Int) == 10) = false := beq_eq_false_iff_ne.2 (by omega)
    have e95 : ((c : Int) == 95) = false := beq_eq_false_iff_ne.2 (by omega)
    have e65533 : ((c : Int) != 65533) = true := by rw [bne_iff_ne]; omega
    go_enter Tryd.func21, Tryd.ntmps21
    go_wp2
    go_ret
    exact ⟨rfl, rfl⟩
  · -- 127 ≤ c ∧ c ≤ 191
    have hk : cls c = 0 := by
      unfold cls; repeat' split
      all_goals omega
    rw [hk]
    clear hk
    first | (have d97 : decide ((97 : Int) ≤ (c : Int)) = false := decide_eq_false (by omega)) | skip
    first | (have d65 : decide ((65 : Int) ≤ (c : Int)) = false := decide_eq_false (by omega)) | skip
    first | (have d192 : decide ((192 : Int) ≤ (c : Int)) = false := decide_eq_false (by omega)) | skip
    first | (have d48 : decide ((48 : Int) ≤ (c : Int)) = false := decide_eq_false (by omega)) | skip
    first | (have d33 : decide ((33 : Int) ≤ (c : Int)) = false := decide_eq_false (by omega)) | skip
    first | (have d122 : decide ((c : Int) ≤ 122) = false := decide_eq_false (by omega)) | skip
    first | (have d90 : decide ((c : Int) ≤ 90) = false := decide_eq_false (by omega)) | skip
    first | (have d57 : decide ((c : Int) ≤ 57) = false := decide_eq_false (by omega)) | skip
    first | (have d126 : decide ((c : Int) ≤ 126) = false := decide_eq_false (by omega)) | skip
    have e32 : ((c : Int) == 32) = false := beq_eq_false_iff_ne.2 (by omega)
    have e9 : ((c : Int) == 9) = false := beq_eq_false_iff_ne.2 (by omega)
    have e10 : ((c : Int) == 10) = false := beq_eq_false_iff_ne.2 (by omega)
    have e95 : ((c : Int) == 95) = false := beq_eq_false_iff_ne.2 (by omega)
    have e65533 : ((c : Int) != 65533) = true := by rw [bne_iff_ne]; omega
    go_enter Tryd.func21, Tryd.ntmps21
    go_wp2
    go_ret
    exact ⟨rfl, rfl⟩
  · -- 192 ≤ c ∧ c ≠ 65533
    have hk : cls c = 3 := by
      unfold cls; repeat' split
      all_goals omega
    rw [hk]
    clear hk
    first | (have d97 : decide ((97 : Int) ≤ (c : Int)) = false := decide_eq_false (by omega)) | skip
    first | (have d65 : decide ((65 : Int) ≤ (c : Int)) = false := decide_eq_false (by omega)) | skip
    first | (have d192 : decide ((192 : Int) ≤ (c : Int)) = false := decide_eq_false (by omega)) | skip
    first | (have d48 : decide ((48 : Int) ≤ (c : Int)) = false := decide_eq_false (by omega)) | skip
    first | (have d33 : decide ((33 : Int) ≤ (c : Int)) = false := decide_eq_false (by omega)) | skip
    first | (have d122 : decide ((c : Int) ≤ 122) = false := decide_eq_false (by omega)) | skip
    first | (have d90 : decide ((c : Int) ≤ 90) = false := decide_eq_false (by omega)) | skip
    first | (have d57 : decide ((c : Int) ≤ 57) = false := decide_eq_false (by omega)) | skip
    first | (have d126 : decide ((c : Int) ≤ 126) = false := decide_eq_false (by omega)) | skip
    have e32 : ((c : Int) == 32) = false := beq_eq_false_iff_ne.2 (by omega)
    have e9 : ((c : Int) == 9) = false := beq_eq_false_iff_ne.2 (by omega)
    have e10 : ((c : Int) == 10) = false := beq_eq_false_iff_ne.2 (by omega)
    have e95 : ((c : Int) == 95) = false := beq_eq_false_iff_ne.2 (by omega)
    have e65533 : ((c : Int) != 65533) = true := by rw [bne_iff_ne]; omega
    go_enter Tryd.func21, Tryd.ntmps21
    go_wp2
    go_ret
    exact ⟨rfl, rfl⟩
end Go.Proofs.YtboagdmjibdlhaaDoor
