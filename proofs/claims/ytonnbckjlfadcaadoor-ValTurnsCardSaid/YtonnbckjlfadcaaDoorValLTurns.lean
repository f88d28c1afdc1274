/- Walk of ValTurns. -/
import Derived.Test.YtonnbckjlfadcaaDoorValQ
namespace Go.Proofs.YtonnbckjlfadcaaDoor
open Go.RowKit

theorem valTurns_long1 (a b : Option Addr) (n c n' c' : Nat) (w : World) (h : (40 : Int) < (n : Int)) :
    Calls Tryd.prog 7 #[.slice a n c, .slice b n' c'] w fun e w' => e = .returned (.bool true) ∧ Below w.heap.size w w' := by
  have hd : decide ((40 : Int) < (n : Int)) = true := decide_eq_true h
  go_enter Tryd.func7, Tryd.ntmps7
  go_wp2_with fail
  refine (awake_any _).mono ?_; rintro e w3 ⟨rfl, hb3⟩
  go_wp2_with fail
  go_ret
  exact ⟨rfl, hb3⟩
theorem valTurns_long2 (a b : Option Addr) (n c n' c' : Nat) (w : World) (h0 : ¬(40 : Int) < (n : Int)) (h : (40 : Int) < (n' : Int)) :
    Calls Tryd.prog 7 #[.slice a n c, .slice b n' c'] w fun e w' => e = .returned (.bool true) ∧ Below w.heap.size w w' := by
  have hd0 : decide ((40 : Int) < (n : Int)) = false := decide_eq_false h0
  have hd : decide ((40 : Int) < (n' : Int)) = true := decide_eq_true h
  go_enter Tryd.func7, Tryd.ntmps7
  go_wp2_with fail
  refine (awake_any _).mono ?_; rintro e w3 ⟨rfl, hb3⟩
  go_wp2_with fail
  go_ret
  exact ⟨rfl, hb3⟩

/-- What holds at each round's head. -/
def TurnRel (n : Nat) (W : World) (i : Value) (wr : World) : Prop := ∃ k : Nat, k ≤ n ∧ i = .int .i64 k ∧ Below W.heap.size W wr

set_option maxRecDepth 100000 in
set_option maxHeartbeats 8000000 in
theorem valTurns_main (a b : Option Addr) (n c n' c' : Nat) (q q' : Nat → Raw) (w : World) (hn : n ≤ 40) (hn' : n' ≤ 40) (hq : IsRaws w a n q) (hq' : IsRaws w b n' q') :
    Calls Tryd.prog 7 #[.slice a n c, .slice b n' c'] w fun e w' => e = .returned (.bool true) ∧ Below w.heap.size w w' := by
  have hd0 : decide ((40 : Int) < (n : Int)) = false := decide_eq_false (by omega)
  have hd1 : decide ((40 : Int) < (n' : Int)) = false := decide_eq_false (by omega)
  have H1 := Lib.hid (fun w => list_any a n c q w (by omega))
  have H2 := Lib.hid (fun w => list_any b n' c' q' w (by omega))
  have HQ := Lib.hid hq; clear hq
  have HQ' := Lib.hid hq'; clear hq'
  go_enter Tryd.func7, Tryd.ntmps7
  go_wp2_with fail
  refine (H1.out _ HQ.out).mono ?_; rintro e w1 ⟨a1, c1, rfl, o1, b1⟩
  go_wp2_with fail
  refine (H2.out _ (HQ'.out.later b1)).mono ?_; rintro e w2 ⟨a2, c2, rfl, o2, b2⟩
  have L1 : Hid ((listT a1 n c1 q).Lies w2) := (lies_own o1).keep (Keeps.below b2)
  have L2 : Hid ((listT a2 n' c2 q').Lies w2) := lies_own o2
  have HB := Lib.hid (keepB b1 b2)
  have HQ2 := Lib.hid ((HQ.out.later b1).later b2)
  have HQ2' := Lib.hid ((HQ'.out.later b1).later b2)
  clear H1 H2 HQ HQ' o1 o2 b1 b2
  go_wp2_with fail
  have hcomm := onesEq_comm (atoms q' n') (atoms q n)
  refine (equal_lists a1 a2 n c1 n' c2 q q' _ L1.out L2.out (by omega) (by omega)).mono ?_; rintro e w3 ⟨rfl, b3⟩
  have E2 := equal_lists a2 a1 n' c2 n c1 q' q w3 (L2.out.keep (Keeps.below b3)) (L1.out.keep (Keeps.below b3)) (by omega) (by omega)
  rw [hcomm] at E2
  clear hcomm
  generalize onesEq (atoms q n) (atoms q' n') = ee at *
  go_wp2_with fail
  refine E2.mono ?_; rintro e w4 ⟨rfl, b4⟩
  have L1' : Hid ((listT a1 n c1 q).Lies w4) := (L1.out.keep (Keeps.below b3)).keep (Keeps.below b4)
  have L2' : Hid ((listT a2 n' c2 q').Lies w4) := (L2.out.keep (Keeps.below b3)).keep (Keeps.below b4)
  have HB' := Lib.hid (keepB (keepB HB.out b3) b4)
  have HQ4 := Lib.hid ((HQ2.out.later b3).later b4)
  have HQ4' := Lib.hid ((HQ2'.out.later b3).later b4)
  clear L1 L2 HB HQ2 HQ2' b3 b4
  go_wp2_with fail
  go_loopw [37] (fun i wr => TurnRel n w4 i wr) (fun i _ => n - (intOf i).toNat)
  case atStart => exact ⟨0, Nat.zero_le _, rfl, Below.refl _ _⟩
  case round =>
    obtain ⟨k, hk, rfl, B⟩ := hrel
    have HBr := Lib.hid B; clear B
    obtain ⟨wo, rfl⟩ : ∃ wo : World, wo = wr := ⟨_, rfl⟩
    by_cases hlt : k < n
    · have L1r : Hid ((listT a1 n c1 q).Lies wo) := L1'.out.keep (Keeps.below HBr.out)
      have hsz : (listT a1 n c1 q).evs.length ≤ 900000000 := listT_small a1 n c1 q (by omega)
      have EXA := Lib.hid (fun w' (h : (listT a1 n c1 q).Lies w') => equal_one_list (q k).atom a1 n c1 (fun i => .one (q i).atom) w' h hsz)
      have EXX := Lib.hid (equal_one (q k).atom (q k).atom)
      rw [(q k).self] at EXX
      have K := Lib.hid (kind_any (q k))
      obtain ⟨ga, cs, hga, hv, hcs⟩ := L1r.out.1 (by omega)
      have ca : wo.cell? ⟨ga, k, none⟩ = some (q k).atom.val := by
        have := hcs k hlt
        exact (hv.cell k).trans this
      clear hcs hv
      obtain ⟨bl, off, hbl, hc⟩ := HQ4.out (by omega)
      have D4 := Lib.hid (hc k hlt)
      obtain ⟨d0, d1, d2, d3⟩ := (hc k hlt).later HBr.out
      clear hc
      have EXY := Lib.hid (fun j => equal_one (q k).atom (q' j).atom)
      have EYX : Hid (∀ j w', Calls Tryd.prog 19 #[(q' j).atom.val, (q k).atom.val] w' fun e w'' => e = .returned (.bool (sameA (q k).atom (q' j).atom)) ∧ Below w'.heap.size w' w'') := fun j w' => by rw [sameA_comm]; exact equal_one _ _ w'
      have SXY := Lib.hid (fun j => lsame_any (q k) (q' j))
      subst hga hbl
      generalize hvx : (q k).atom.val = vx at *
      have HVX := Lib.hid hvx; clear hvx
      generalize hqk : q k = x at *
      have HQK := Lib.hid hqk; clear hqk
      obtain ⟨xk, xn, xs, xr⟩ := x
      simp only [Raw.val, Raw.cs] at K d0 d1 d2 d3
      simp only [Raw.val, Raw.cs] at SXY
      generalize hkx : (Raw.mk xk xn xs xr).kind = kx at *
      clear hkx
      have i0' : (0 : Int) ≤ (k : Int) := Int.natCast_nonneg _
      have i1' : (k : Int) < (n : Int) := by omega
      go_wp2_with fail
      go_region_held3 (fun w' => w'.cell? ⟨bl, off + k * 4, none⟩ = some (.int .i64 xk) ∧ w'.cell? ⟨bl, off + k * 4 + 1, none⟩ = some (.int .i64 xn) ∧ w'.cell? ⟨bl, off + k * 4 + 2, none⟩ = some (.string xs) ∧ w'.cell? ⟨bl, off + k * 4 + 3, none⟩ = some (.int .i32 xr) ∧ (listT (some ⟨ga, 0, none⟩) n c1 q).Lies w')
        (first | exact ⟨d0, d1, d2, d3, lies_drew L1r.out⟩ | exact (And.imp (cell_later hb5) (And.imp (cell_later hb5) (And.imp (cell_later hb5) (And.imp (cell_later hb5) (fun hl => Tr.Lies.keep (Keeps.below hb5) hl))))) (by assumption) | exact (And.imp (cell_later hb6) (And.imp (cell_later hb6) (And.imp (cell_later hb6) (And.imp (cell_later hb6) (fun hl => Tr.Lies.keep (Keeps.below hb6) hl))))) (by assumption) | exact (And.imp (cell_later hb7) (And.imp (cell_later hb7) (And.imp (cell_later hb7) (And.imp (cell_later hb7) (fun hl => Tr.Lies.keep (Keeps.below hb7) hl))))) (by assumption))
        (first | ((with_reducible refine (EXX.out _).mono ?_); rintro e w5 ⟨rfl, hb5⟩) | ((with_reducible refine (K.out _).mono ?_); rintro e w6 ⟨rfl, hb6⟩) | ((with_reducible refine (EXA.out _ (by go_split_ands; assumption)).mono ?_); rintro e w7 ⟨rfl, hb7⟩))
      have HB7 := Lib.hid (keepB (keepB (keepB HBr.out (bl_drew hb5)) hb6) hb7)
      clear hb5 hb6 hb7 d0 d1 d2 d3 EXX K EXA L1r ca HBr

      go_wp2_with fail
      go_loopw [60] (fun j wr => TurnRel n' w4 j wr) (fun j _ => n' - (intOf j).toNat)
      case atStart => exact ⟨0, Nat.zero_le _, rfl, HB7.out⟩
      case round =>
        clear HB7
        obtain ⟨j, hj, rfl, Bi⟩ := hrel
        have HBi := Lib.hid Bi; clear Bi
        by_cases hlj : j < n'
        · have L2r : (listT a2 n' c2 q').Lies wr := L2'.out.keep (Keeps.below HBi.out)
          obtain ⟨gb, ds, hgb, hv, hcs⟩ := L2r.1 (by omega)
          have cb : wr.cell? ⟨gb, j, none⟩ = some (q' j).atom.val := by
            have := hcs j hlj
            exact (hv.cell j).trans this
          clear hcs hv L2r
          obtain ⟨bm, offm, hbm, hc⟩ := HQ4'.out (by omega)
          obtain ⟨e0, e1, e2, e3⟩ := (hc j hlj).later HBi.out
          obtain ⟨d0, d1, d2, d3⟩ := D4.out.later HBi.out
          clear hc
          have F1 := Lib.hid (EXY.out j)
          have F2 := Lib.hid (EYX.out j)
          have F3 := Lib.hid (SXY.out j)
          subst hgb hbm
          simp only at d0 d1 d2 d3
          generalize sameA (Raw.mk xk xn xs xr).atom (q' j).atom = sm at *
          generalize (q' j).atom.val = vy at *
          generalize hqj : q' j = y at *
          clear hqj
          obtain ⟨yk, yn, ys, yr⟩ := y
          simp only at F3 e0 e1 e2 e3
          have j0' : (0 : Int) ≤ (j : Int) := Int.natCast_nonneg _
          have j1' : (j : Int) < (n' : Int) := by omega
          go_wp2_with fail
          go_region_held3 (fun w' => w'.cell? ⟨bl, off + k * 4, none⟩ = some (.int .i64 xk) ∧ w'.cell? ⟨bl, off + k * 4 + 1, none⟩ = some (.int .i64 xn) ∧ w'.cell? ⟨bl, off + k * 4 + 2, none⟩ = some (.string xs) ∧ w'.cell? ⟨bl, off + k * 4 + 3, none⟩ = some (.int .i32 xr) ∧ w'.cell? ⟨bm, offm + j * 4, none⟩ = some (.int .i64 yk) ∧ w'.cell? ⟨bm, offm + j * 4 + 1, none⟩ = some (.int .i64 yn) ∧ w'.cell? ⟨bm, offm + j * 4 + 2, none⟩ = some (.string ys) ∧ w'.cell? ⟨bm, offm + j * 4 + 3, none⟩ = some (.int .i32 yr) ∧ Below w4.heap.size w4 w')
            (first | exact ⟨d0, d1, d2, d3, e0, e1, e2, e3, HBi.out.drew⟩ | exact (And.imp (cell_later hb5) (And.imp (cell_later hb5) (And.imp (cell_later hb5) (And.imp (cell_later hb5) (And.imp (cell_later hb5) (And.imp (cell_later hb5) (And.imp (cell_later hb5) (And.imp (cell_later hb5) (fun hl => keepB hl hb5))))))))) (by assumption) | exact (And.imp (cell_later hb6) (And.imp (cell_later hb6) (And.imp (cell_later hb6) (And.imp (cell_later hb6) (And.imp (cell_later hb6) (And.imp (cell_later hb6) (And.imp (cell_later hb6) (And.imp (cell_later hb6) (fun hl => keepB hl hb6))))))))) (by assumption) | exact (And.imp (cell_later hb8) (And.imp (cell_later hb8) (And.imp (cell_later hb8) (And.imp (cell_later hb8) (And.imp (cell_later hb8) (And.imp (cell_later hb8) (And.imp (cell_later hb8) (And.imp (cell_later hb8) (fun hl => keepB hl hb8))))))))) (by assumption))
            (first | ((with_reducible refine (F1.out _).mono ?_); rintro e w5 ⟨rfl, hb5⟩) | ((with_reducible refine (F2.out _).mono ?_); rintro e w6 ⟨rfl, hb6⟩) | ((with_reducible refine (F3.out _).mono ?_); rintro e w8 ⟨rfl, hb8⟩))
          obtain ⟨_, _, _, _, _, _, _, _, HBn'⟩ := (by assumption : w8.cell? ⟨bl, off + k * 4, none⟩ = some (.int .i64 xk) ∧ w8.cell? ⟨bl, off + k * 4 + 1, none⟩ = some (.int .i64 xn) ∧ w8.cell? ⟨bl, off + k * 4 + 2, none⟩ = some (.string xs) ∧ w8.cell? ⟨bl, off + k * 4 + 3, none⟩ = some (.int .i32 xr) ∧ w8.cell? ⟨bm, offm + j * 4, none⟩ = some (.int .i64 yk) ∧ w8.cell? ⟨bm, offm + j * 4 + 1, none⟩ = some (.int .i64 yn) ∧ w8.cell? ⟨bm, offm + j * 4 + 2, none⟩ = some (.string ys) ∧ w8.cell? ⟨bm, offm + j * 4 + 3, none⟩ = some (.int .i32 yr) ∧ Below w4.heap.size w4 w8)
          have HBn := Lib.hid HBn'
          clear HBn' hb8 d0 d1 d2 d3 e0 e1 e2 e3
          go_wp2_with fail
          exact ⟨⟨j + 1, by omega, by go_num, HBn.out⟩, by simp [intOf]; omega⟩
        · obtain rfl : j = n' := by omega
          go_wp2_with fail
          exact ⟨⟨k + 1, by omega, by go_num, HBi.out⟩, by simp [intOf]; omega⟩
    · obtain rfl : k = n := by omega
      go_wp2_with fail
      refine (awake_any _).mono ?_; rintro e w9 ⟨rfl, hb9⟩
      go_wp2_with fail
      go_ret
      exact ⟨rfl, keepB (keepB HB'.out HBr.out) hb9⟩

theorem valTurns_walk (a : Option Addr) (n c : Nat) (q : Nat → Raw) (b : Option Addr) (n' c' : Nat) (q' : Nat → Raw) (w : World) (hq : IsRaws w a n q) (hq' : IsRaws w b n' q') :
    Calls Tryd.prog 7 #[.slice a n c, .slice b n' c'] w fun e w' => e = .returned (.bool true) ∧ Below w.heap.size w w' := by
  by_cases h1 : (40 : Int) < (n : Int)
  · exact valTurns_long1 a b n c n' c' w h1
  · by_cases h2 : (40 : Int) < (n' : Int)
    · exact valTurns_long2 a b n c n' c' w h1 h2
    · exact valTurns_main a b n c n' c' q q' w (by omega) (by omega) hq hq'
end Go.Proofs.YtonnbckjlfadcaaDoor
