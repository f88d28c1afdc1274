/- Walk of CellApart. -/
import Derived.Test.YtbcocchmbkghoaaCellF
namespace Go.Proofs.Ytbcocchmbkghoaa
open Go.RowKit

theorem stLoad_num (n : Nat) (i : Int) (s : St) : (stLoad n i s).2 = s.2 := by unfold stLoad; split <;> rfl
theorem stLoad_other (n : Nat) (i : Int) (s : St) (j : Nat) (_ : (j : Int) ≠ i) : (stLoad n i s).2 j = s.2 j := by rw [stLoad_num]
theorem upd_off {f : Nat → Int} {i v : Int} {j : Nat} (h0 : 0 ≤ i) (h : (j : Int) ≠ i) : upd f i.toNat v j = f j := upd_other _ _ (by omega)
theorem stStore_other (n : Nat) (i v : Int) (s : St) (j : Nat) (h : (j : Int) ≠ i) : (stStore n i v s).2 j = s.2 j := by
  unfold stStore
  split
  · rename_i hc; exact upd_off hc.1 h
  · rfl
theorem stSwap_other (n : Nat) (i a v : Int) (s : St) (j : Nat) (h : (j : Int) ≠ i) : (stSwap n i a v s).2 j = s.2 j := by
  unfold stSwap
  split
  · rename_i hc
    split
    · exact upd_off hc.1 h
    · rfl
  · rfl
theorem stAdd_other (n : Nat) (i v : Int) (s : St) (j : Nat) (h : (j : Int) ≠ i) : (stAdd n i v s).2 j = s.2 j := by
  unfold stAdd
  split
  · rename_i hc; exact upd_off hc.1 h
  · rfl

set_option maxRecDepth 100000 in
set_option maxHeartbeats 4000000 in
theorem cellApart_out (cells : Int) (a : Option Addr) (len cap : Nat) (w : World) (h : (60 : Int) < (len : Int) ∨ cells < 0 ∨ 40 < cells) :
    Calls Try.prog 4 #[.int .i64 cells, .slice a len cap] w fun e w' => e = .returned (.bool true) ∧ Below w.heap.size w w' := by
  by_cases h1 : (60 : Int) < (len : Int)
  · clear h
    go_enter Try.func4, Try.ntmps4
    go_wp2_with fail
    refine (awake_any _).mono ?_; rintro e w3 ⟨rfl, hb3⟩
    go_wp2_with fail
    go_ret
    exact ⟨rfl, hb3⟩
  · by_cases h3 : cells < 0
    · clear h
      go_enter Try.func4, Try.ntmps4
      go_wp2_with fail
      refine (awake_any _).mono ?_; rintro e w3 ⟨rfl, hb3⟩
      go_wp2_with fail
      go_ret
      exact ⟨rfl, hb3⟩
    · have h4 : 40 < cells := by omega
      clear h
      go_enter Try.func4, Try.ntmps4
      go_wp2_with fail
      refine (awake_any _).mono ?_; rintro e w3 ⟨rfl, hb3⟩
      go_wp2_with fail
      go_ret
      exact ⟨rfl, hb3⟩

/-- What holds at each round's head. -/
def ApartRel (n len : Nat) (w : World) (i : Value) (wr : World) : Prop :=
  ∃ (k : Nat) (s : St), k ≤ len ∧ i = .int .i64 k ∧ Ar wr (w.heap.size + 1) w.heap.size n n s.1 s.2 ∧ CB s.1 (41 * k) ∧ Below w.heap.size w wr

/-- What holds at each head of a round's own loop. -/
def InnerRel (n m p g cap ob : Nat) (o : OpV) (f h : Nat → Int) (w : World) (i : Value) (wr : World) : Prop :=
  ∃ (j : Nat) (c d : Nat → Int), j ≤ n ∧ i = .int .i64 j ∧ Ar wr (w.heap.size + 1) w.heap.size n n c f ∧ Ar wr p g n cap d h ∧ CB c (m + 1 + j) ∧ CB d (m + j) ∧
    Blk wr ob 34 #[.int .i64 o.k, .int .i64 o.i, .int .u64 o.a, .int .u64 o.v] ∧ Below w.heap.size w wr

set_option maxRecDepth 100000 in
set_option maxHeartbeats 16000000 in
theorem cellApart_main (n : Nat) (a : Option Addr) (len cap : Nat) (q : Nat → OpV) (w : World) (h1 : (len : Int) ≤ 60) (hn : n ≤ 40) (hq : IsOps w a len q) :
    Calls Try.prog 4 #[.int .i64 (n : Int), .slice a len cap] w fun e w' => e = .returned (.bool true) ∧ Below w.heap.size w w' := by
  have HQ := Lib.hid hq; clear hq
  have F0 := Lib.hid few0
  go_enter Try.func4, Try.ntmps4
  go_wp2_with fail
  refine (new_yes n _ (by omega)).mono ?_; rintro e w1 ⟨rfl, A1, B1⟩
  go_wp2_with fail
  go_loopw [40] (fun i wr => ApartRel n len w i wr) (fun i _ => len - (intOf i).toNat)
  case atStart => exact ⟨0, (zeroF, zeroF), Nat.zero_le _, rfl, A1, F0.out, B1⟩
  case round =>
    clear A1 B1
    obtain ⟨wo, rfl⟩ : ∃ wo : World, wo = wr := ⟨_, rfl⟩
    obtain ⟨k, s, hk, rfl, A, hm, B⟩ := hrel
    by_cases hlt : k < len
    · obtain ⟨b, off, rfl, hcells⟩ := HQ.out (by omega)
      obtain ⟨x0, x1, x2, x3, f0, f1, f2, f3⟩ := hcells k hlt
      clear hcells
      have y0 := cell_later B x0
      have y1 := cell_later B x1
      have y2 := cell_later B x2
      have y3 := cell_later B x3
      clear x0 x1 x2 x3
      have A' := A.alloc (.cells #[.int .i64 (q k).k, .int .i64 (q k).i, .int .u64 (q k).a, .int .u64 (q k).v] 34)
      have X' := Blk.new wo 34 #[.int .i64 (q k).k, .int .i64 (q k).i, .int .u64 (q k).a, .int .u64 (q k).v]
      have B' := B.alloc B.size (.cells #[.int .i64 (q k).k, .int .i64 (q k).i, .int .u64 (q k).a, .int .u64 (q k).v] 34)
      have hob := B.size
      go_wp2_with fail
      refine (copy_any A').mono ?_; rintro e w2 ⟨pb, gb, cb, rfl, hpb, hgb, C2, B2⟩
      have A2 := A'.below B2 (Nat.le_refl _)
      have X2 := X'.below B2 X'.lt
      have hp := A.p_lt
      have hg := A.g_lt
      have hpb' : wo.heap.size + 1 ≤ pb := by simpa using hpb
      have hgb' : wo.heap.size + 1 ≤ gb := by simpa using hgb
      have B2' : Below w.heap.size w w2 := keepB B' B2
      clear A A' X' B B' B2 hpb hgb y0 y1 y2 y3
      have z0 := X2.cell 0
      have z1 := X2.cell 1
      have z2 := X2.cell 2
      have z3 := X2.cell 3
      simp only [List.getElem?_toArray, List.getElem?_cons_zero, List.getElem?_cons_succ] at z0 z1 z2 z3
      obtain ⟨m, hm1, hm2⟩ : ∃ m, CB s.1 m ∧ m ≤ 41 * k := ⟨_, hm, Nat.le_refl _⟩
      clear hm
      by_cases t1' : (q k).k = 1
      · have g1 : ((q k).k == 1) = true := beq_iff_eq.2 t1'
        clear t1'
        go_wp2_with (refine (load_st A2 (q k).i hm1 (by omega)).mono ?_; rintro e w3 ⟨r, rfl, A3, m3, O3⟩)
        have HL : Hid ((stLoad n (q k).i s).2 = s.2) := stLoad_num _ _ _
        have HO : Hid (∀ j : Nat, (j : Int) ≠ (q k).i → (stLoad n (q k).i s).2 j = s.2 j) := stLoad_other n (q k).i s
        generalize stLoad n (q k).i s = s' at A3 m3 HO HL
        have C3 := C2.only O3 (by omega) (by omega) (by omega) (by omega)
        have X3 := X2.only O3 (by omega) (by omega)
        have B3 := O3.below B2' B2'.size (by omega) (by omega)
        clear z0 z1 z2 z3
        go_loopw [81] (fun i wr => InnerRel n m pb gb cb wo.heap.size (q k) s'.2 s.2 w i wr) (fun i _ => n - (intOf i).toNat)
        case atStart => exact ⟨0, _, _, Nat.zero_le _, rfl, A3, C3, m3, hm1, X3, B3⟩
        case round =>
          clear A3 C3 m3 X3 B3 A2 C2 X2 B2'
          obtain ⟨j, c, d, hj, rfl, A, C, mc, md, X, B⟩ := hrel
          have z0 := X.cell 0
          have z1 := X.cell 1
          simp only [List.getElem?_toArray, List.getElem?_cons_zero, List.getElem?_cons_succ] at z0 z1
          by_cases hjn : j < n
          · go_wp2_with fail
            refine (load_yes A hjn mc (by omega)).mono ?_; rintro e w4 ⟨rfl, A4, O4⟩
            have hpp := C.p_lt
            have X4 := X.only O4 (by omega) (by omega)
            have C4 := C.only O4 (by omega) (by omega) (by omega) (by omega)
            have B4 := O4.below B B.size (by omega) (by omega)
            clear z0 z1
            go_wp2_with fail
            refine (load_yes C4 hjn md (by omega)).mono ?_; rintro e w5 ⟨rfl, C5, O5⟩
            have A5 := A4.only O5 (by omega) (by omega) (by omega) (by omega)
            have X5 := X4.only O5 (by omega) (by omega)
            have B5 := O5.below B4 B4.size (by omega) (by omega)
            have z0 := X5.cell 0
            have z1 := X5.cell 1
            simp only [List.getElem?_toArray, List.getElem?_cons_zero, List.getElem?_cons_succ] at z0 z1
            have HR : Hid (InnerRel n m pb gb cb wo.heap.size (q k) s'.2 s.2 w (.int .i64 ((j : Int) + 1)) w5) := ⟨j + 1, _, _, by omega, by go_num, A5, C5, mc.upd 0, md.upd 0, X5, B5⟩
            clear A C X B A4 C4 X4 B4 O4 O5 A5 C5 X5 B5 mc md
            by_cases hji : (j : Int) = (q k).i
            · have t1 : ((j : Int) != (q k).i) = false := by simp [bne, hji]
              have t2 : ((j : Int) == (q k).i) = true := beq_iff_eq.2 hji
              clear hji
              have t3 : (s'.2 j != s.2 j) = false := by simp [bne, HL.out]
              go_wp2_with fail
              exact ⟨HR.out, by simp [intOf]; omega⟩
            · have t1 : ((j : Int) != (q k).i) = true := by simp [bne, hji]
              have t2 : ((j : Int) == (q k).i) = false := beq_eq_false_iff_ne.2 hji
              have t3 : (s'.2 j != s.2 j) = false := by simp [bne, HO.out j hji]
              clear hji
              go_wp2_with fail
              exact ⟨HR.out, by simp [intOf]; omega⟩
          · have HR : Hid (ApartRel n len w (.int .i64 ((k : Int) + 1)) wr) := ⟨k + 1, (c, s'.2), by omega, by go_num, A, mc.more (by omega), B⟩
            clear A C X B mc md z0 z1
            go_wp2_with fail
            exact ⟨HR.out, by simp [intOf]; omega⟩
      · have g1 : ((q k).k == 1) = false := beq_eq_false_iff_ne.2 t1'
        by_cases t2' : (q k).k = 2
        · have g2 : ((q k).k == 2) = true := beq_iff_eq.2 t2'
          clear t2'
          go_wp2_with (refine (store_st A2 (q k).i (q k).v f3 hm1 (by omega)).mono ?_; rintro e w3 ⟨r, rfl, A3, m3, O3⟩)
          have HO : Hid (∀ j : Nat, (j : Int) ≠ (q k).i → (stStore n (q k).i (q k).v s).2 j = s.2 j) := stStore_other n (q k).i (q k).v s
          generalize stStore n (q k).i (q k).v s = s' at A3 m3 HO
          have C3 := C2.only O3 (by omega) (by omega) (by omega) (by omega)
          have X3 := X2.only O3 (by omega) (by omega)
          have B3 := O3.below B2' B2'.size (by omega) (by omega)
          clear z0 z1 z2 z3
          go_loopw [81] (fun i wr => InnerRel n m pb gb cb wo.heap.size (q k) s'.2 s.2 w i wr) (fun i _ => n - (intOf i).toNat)
          case atStart => exact ⟨0, _, _, Nat.zero_le _, rfl, A3, C3, m3, hm1, X3, B3⟩
          case round =>
            clear A3 C3 m3 X3 B3 A2 C2 X2 B2'
            obtain ⟨j, c, d, hj, rfl, A, C, mc, md, X, B⟩ := hrel
            have z0 := X.cell 0
            have z1 := X.cell 1
            simp only [List.getElem?_toArray, List.getElem?_cons_zero, List.getElem?_cons_succ] at z0 z1
            by_cases hjn : j < n
            · go_wp2_with fail
              refine (load_yes A hjn mc (by omega)).mono ?_; rintro e w4 ⟨rfl, A4, O4⟩
              have hpp := C.p_lt
              have X4 := X.only O4 (by omega) (by omega)
              have C4 := C.only O4 (by omega) (by omega) (by omega) (by omega)
              have B4 := O4.below B B.size (by omega) (by omega)
              clear z0 z1
              go_wp2_with fail
              refine (load_yes C4 hjn md (by omega)).mono ?_; rintro e w5 ⟨rfl, C5, O5⟩
              have A5 := A4.only O5 (by omega) (by omega) (by omega) (by omega)
              have X5 := X4.only O5 (by omega) (by omega)
              have B5 := O5.below B4 B4.size (by omega) (by omega)
              have z0 := X5.cell 0
              have z1 := X5.cell 1
              simp only [List.getElem?_toArray, List.getElem?_cons_zero, List.getElem?_cons_succ] at z0 z1
              have HR : Hid (InnerRel n m pb gb cb wo.heap.size (q k) s'.2 s.2 w (.int .i64 ((j : Int) + 1)) w5) := ⟨j + 1, _, _, by omega, by go_num, A5, C5, mc.upd 0, md.upd 0, X5, B5⟩
              clear A C X B A4 C4 X4 B4 O4 O5 A5 C5 X5 B5 mc md
              by_cases hji : (j : Int) = (q k).i
              · have t1 : ((j : Int) != (q k).i) = false := by simp [bne, hji]
                have t2 : ((j : Int) == (q k).i) = true := beq_iff_eq.2 hji
                clear hji
                skip
                go_wp2_with fail
                exact ⟨HR.out, by simp [intOf]; omega⟩
              · have t1 : ((j : Int) != (q k).i) = true := by simp [bne, hji]
                have t2 : ((j : Int) == (q k).i) = false := beq_eq_false_iff_ne.2 hji
                have t3 : (s'.2 j != s.2 j) = false := by simp [bne, HO.out j hji]
                clear hji
                go_wp2_with fail
                exact ⟨HR.out, by simp [intOf]; omega⟩
            · have HR : Hid (ApartRel n len w (.int .i64 ((k : Int) + 1)) wr) := ⟨k + 1, (c, s'.2), by omega, by go_num, A, mc.more (by omega), B⟩
              clear A C X B mc md z0 z1
              go_wp2_with fail
              exact ⟨HR.out, by simp [intOf]; omega⟩
        · have g2 : ((q k).k == 2) = false := beq_eq_false_iff_ne.2 t2'
          by_cases t3' : (q k).k = 3
          · have g3 : ((q k).k == 3) = true := beq_iff_eq.2 t3'
            clear t3'
            go_wp2_with (refine (swap_st A2 (q k).i (q k).a (q k).v f3 hm1 (by omega)).mono ?_; rintro e w3 ⟨r, rfl, A3, m3, O3⟩)
            have HO : Hid (∀ j : Nat, (j : Int) ≠ (q k).i → (stSwap n (q k).i (q k).a (q k).v s).2 j = s.2 j) := stSwap_other n (q k).i (q k).a (q k).v s
            generalize stSwap n (q k).i (q k).a (q k).v s = s' at A3 m3 HO
            have C3 := C2.only O3 (by omega) (by omega) (by omega) (by omega)
            have X3 := X2.only O3 (by omega) (by omega)
            have B3 := O3.below B2' B2'.size (by omega) (by omega)
            clear z0 z1 z2 z3
            go_loopw [81] (fun i wr => InnerRel n m pb gb cb wo.heap.size (q k) s'.2 s.2 w i wr) (fun i _ => n - (intOf i).toNat)
            case atStart => exact ⟨0, _, _, Nat.zero_le _, rfl, A3, C3, m3, hm1, X3, B3⟩
            case round =>
              clear A3 C3 m3 X3 B3 A2 C2 X2 B2'
              obtain ⟨j, c, d, hj, rfl, A, C, mc, md, X, B⟩ := hrel
              have z0 := X.cell 0
              have z1 := X.cell 1
              simp only [List.getElem?_toArray, List.getElem?_cons_zero, List.getElem?_cons_succ] at z0 z1
              by_cases hjn : j < n
              · go_wp2_with fail
                refine (load_yes A hjn mc (by omega)).mono ?_; rintro e w4 ⟨rfl, A4, O4⟩
                have hpp := C.p_lt
                have X4 := X.only O4 (by omega) (by omega)
                have C4 := C.only O4 (by omega) (by omega) (by omega) (by omega)
                have B4 := O4.below B B.size (by omega) (by omega)
                clear z0 z1
                go_wp2_with fail
                refine (load_yes C4 hjn md (by omega)).mono ?_; rintro e w5 ⟨rfl, C5, O5⟩
                have A5 := A4.only O5 (by omega) (by omega) (by omega) (by omega)
                have X5 := X4.only O5 (by omega) (by omega)
                have B5 := O5.below B4 B4.size (by omega) (by omega)
                have z0 := X5.cell 0
                have z1 := X5.cell 1
                simp only [List.getElem?_toArray, List.getElem?_cons_zero, List.getElem?_cons_succ] at z0 z1
                have HR : Hid (InnerRel n m pb gb cb wo.heap.size (q k) s'.2 s.2 w (.int .i64 ((j : Int) + 1)) w5) := ⟨j + 1, _, _, by omega, by go_num, A5, C5, mc.upd 0, md.upd 0, X5, B5⟩
                clear A C X B A4 C4 X4 B4 O4 O5 A5 C5 X5 B5 mc md
                by_cases hji : (j : Int) = (q k).i
                · have t1 : ((j : Int) != (q k).i) = false := by simp [bne, hji]
                  have t2 : ((j : Int) == (q k).i) = true := beq_iff_eq.2 hji
                  clear hji
                  skip
                  go_wp2_with fail
                  exact ⟨HR.out, by simp [intOf]; omega⟩
                · have t1 : ((j : Int) != (q k).i) = true := by simp [bne, hji]
                  have t2 : ((j : Int) == (q k).i) = false := beq_eq_false_iff_ne.2 hji
                  have t3 : (s'.2 j != s.2 j) = false := by simp [bne, HO.out j hji]
                  clear hji
                  go_wp2_with fail
                  exact ⟨HR.out, by simp [intOf]; omega⟩
              · have HR : Hid (ApartRel n len w (.int .i64 ((k : Int) + 1)) wr) := ⟨k + 1, (c, s'.2), by omega, by go_num, A, mc.more (by omega), B⟩
                clear A C X B mc md z0 z1
                go_wp2_with fail
                exact ⟨HR.out, by simp [intOf]; omega⟩
          · have g3 : ((q k).k == 3) = false := beq_eq_false_iff_ne.2 t3'
            go_wp2_with (refine (add_st A2 (q k).i (q k).v hm1 (by omega)).mono ?_; rintro e w3 ⟨r, rfl, A3, m3, O3⟩)
            have HO : Hid (∀ j : Nat, (j : Int) ≠ (q k).i → (stAdd n (q k).i (q k).v s).2 j = s.2 j) := stAdd_other n (q k).i (q k).v s
            generalize stAdd n (q k).i (q k).v s = s' at A3 m3 HO
            have C3 := C2.only O3 (by omega) (by omega) (by omega) (by omega)
            have X3 := X2.only O3 (by omega) (by omega)
            have B3 := O3.below B2' B2'.size (by omega) (by omega)
            clear z0 z1 z2 z3
            go_loopw [81] (fun i wr => InnerRel n m pb gb cb wo.heap.size (q k) s'.2 s.2 w i wr) (fun i _ => n - (intOf i).toNat)
            case atStart => exact ⟨0, _, _, Nat.zero_le _, rfl, A3, C3, m3, hm1, X3, B3⟩
            case round =>
              clear A3 C3 m3 X3 B3 A2 C2 X2 B2'
              obtain ⟨j, c, d, hj, rfl, A, C, mc, md, X, B⟩ := hrel
              have z0 := X.cell 0
              have z1 := X.cell 1
              simp only [List.getElem?_toArray, List.getElem?_cons_zero, List.getElem?_cons_succ] at z0 z1
              by_cases hjn : j < n
              · go_wp2_with fail
                refine (load_yes A hjn mc (by omega)).mono ?_; rintro e w4 ⟨rfl, A4, O4⟩
                have hpp := C.p_lt
                have X4 := X.only O4 (by omega) (by omega)
                have C4 := C.only O4 (by omega) (by omega) (by omega) (by omega)
                have B4 := O4.below B B.size (by omega) (by omega)
                clear z0 z1
                go_wp2_with fail
                refine (load_yes C4 hjn md (by omega)).mono ?_; rintro e w5 ⟨rfl, C5, O5⟩
                have A5 := A4.only O5 (by omega) (by omega) (by omega) (by omega)
                have X5 := X4.only O5 (by omega) (by omega)
                have B5 := O5.below B4 B4.size (by omega) (by omega)
                have z0 := X5.cell 0
                have z1 := X5.cell 1
                simp only [List.getElem?_toArray, List.getElem?_cons_zero, List.getElem?_cons_succ] at z0 z1
                have HR : Hid (InnerRel n m pb gb cb wo.heap.size (q k) s'.2 s.2 w (.int .i64 ((j : Int) + 1)) w5) := ⟨j + 1, _, _, by omega, by go_num, A5, C5, mc.upd 0, md.upd 0, X5, B5⟩
                clear A C X B A4 C4 X4 B4 O4 O5 A5 C5 X5 B5 mc md
                by_cases hji : (j : Int) = (q k).i
                · have t1 : ((j : Int) != (q k).i) = false := by simp [bne, hji]
                  have t2 : ((j : Int) == (q k).i) = true := beq_iff_eq.2 hji
                  clear hji
                  skip
                  go_wp2_with fail
                  exact ⟨HR.out, by simp [intOf]; omega⟩
                · have t1 : ((j : Int) != (q k).i) = true := by simp [bne, hji]
                  have t2 : ((j : Int) == (q k).i) = false := beq_eq_false_iff_ne.2 hji
                  have t3 : (s'.2 j != s.2 j) = false := by simp [bne, HO.out j hji]
                  clear hji
                  go_wp2_with fail
                  exact ⟨HR.out, by simp [intOf]; omega⟩
              · have HR : Hid (ApartRel n len w (.int .i64 ((k : Int) + 1)) wr) := ⟨k + 1, (c, s'.2), by omega, by go_num, A, mc.more (by omega), B⟩
                clear A C X B mc md z0 z1
                go_wp2_with fail
                exact ⟨HR.out, by simp [intOf]; omega⟩
    · clear A hm
      go_wp2_with (refine (awake_any _).mono ?_; rintro e w9 ⟨rfl, hb9⟩)
      go_ret
      exact ⟨rfl, keepB B hb9⟩

theorem cellApart_walk (cells : Int) (_c0 : -9223372036854775808 ≤ cells) (_c1 : cells ≤ 9223372036854775807) (a : Option Addr) (len cap : Nat) (q : Nat → OpV) (w : World) (hq : IsOps w a len q) :
    Calls Try.prog 4 #[.int .i64 cells, .slice a len cap] w fun e w' => e = .returned (.bool true) ∧ Below w.heap.size w w' := by
  by_cases h : (60 : Int) < (len : Int) ∨ cells < 0 ∨ 40 < cells
  · exact cellApart_out cells a len cap w h
  · obtain ⟨n, rfl⟩ := Int.eq_ofNat_of_zero_le (show 0 ≤ cells by omega)
    exact cellApart_main n a len cap q w (by omega) (by omega) hq
end Go.Proofs.Ytbcocchmbkghoaa
