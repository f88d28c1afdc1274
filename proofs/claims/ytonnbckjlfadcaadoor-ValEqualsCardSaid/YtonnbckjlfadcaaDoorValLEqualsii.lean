/- Walk of ValEquals, one of four forms. -/
import Derived.Test.YtonnbckjlfadcaaDoorValS
namespace Go.Proofs.YtonnbckjlfadcaaDoor
open Go.RowKit

set_option linter.unusedSimpArgs false in
set_option linter.unusedVariables false in
set_option maxRecDepth 100000 in
set_option maxHeartbeats 16000000 in
theorem valEquals_ii (x y : Raw) (ux : TypeId) (zx : Value) (uy : TypeId) (zy : Value) (a : Option Addr) (n c : Nat) (q : Nat → Raw) (w : World) (hn : n ≤ 40) (hq : IsRaws w a n q) (hx : x.atom.val = .iface ux zx) (hy : y.atom.val = .iface uy zy) :
    Calls Tryd.prog 5 #[x.val, y.val, .slice a n c] w fun e w' => e = .returned (.bool true) ∧ Below w.heap.size w w' := by
  have hlen : ¬(40 : Int) < (n : Int) := by omega
  have MX := Lib.hid (made_any x)
  have MY := Lib.hid (made_any y)
  have EXY := Lib.hid (equal_one x.atom y.atom)
  have SXY := Lib.hid (lsame_any x y)
  have EXL := Lib.hid (eq_xl x.atom)
  have ELX := Lib.hid (eq_lx x.atom)
  have EPP := Lib.hid (fun a b c c' => eq_pp' x.atom y.atom a b n c c' q hn)
  have EM := Lib.hid (fun a b c c' => eq_more a b n c c' q hn)
  have HL := Lib.hid (fun w => list_any a n c q w (by omega))
  have HQ := Lib.hid hq; clear hq
  rw [hx] at MX EXY EXL ELX EPP
  rw [hy] at MY EXY EPP
  clear hx hy
  generalize sameA x.atom y.atom = sm at *
  obtain ⟨xk, xn, xs, xr⟩ := x
  obtain ⟨yk, yn, ys, yr⟩ := y
  simp only [Raw.val, Raw.cs] at MX MY SXY ⊢
  go_enter Tryd.func5, Tryd.ntmps5
  go_wp2_with fail
  have B0 : Below w.heap.size w ((w.alloc (.cells #[.int .i64 xk, .int .i64 xn, .string xs, .int .i32 xr] 23)).alloc (.cells #[.int .i64 yk, .int .i64 yn, .string ys, .int .i32 yr] 23)) := ((Below.refl _ _).alloc (Nat.le_refl _) _).alloc (by simp) _
  have kx := (Blk.new w 23 #[.int .i64 xk, .int .i64 xn, .string xs, .int .i32 xr]).alloc (.cells #[.int .i64 yk, .int .i64 yn, .string ys, .int .i32 yr] 23)
  have ky := Blk.new2 w (.cells #[.int .i64 xk, .int .i64 xn, .string xs, .int .i32 xr] 23) 23 #[.int .i64 yk, .int .i64 yn, .string ys, .int .i32 yr]
  generalize (w.alloc (.cells #[.int .i64 xk, .int .i64 xn, .string xs, .int .i32 xr] 23)).alloc (.cells #[.int .i64 yk, .int .i64 yn, .string ys, .int .i32 yr] 23) = W at *
  have c0 := kx.cell 0; have c1' := kx.cell 1; have c2' := kx.cell 2; have c3 := kx.cell 3
  have d0 := ky.cell 0; have d1 := ky.cell 1; have d2 := ky.cell 2; have d3 := ky.cell 3
  simp at c0 c1' c2' c3 d0 d1 d2 d3
  clear kx ky
  generalize hA : w.heap.size = A at c0 c1' c2' c3 d0 d1 d2 d3 ⊢
  generalize hB : A + 1 = B at d0 d1 d2 d3 ⊢
  go_region_held3 (fun w' => w'.cell? ⟨A, 0, none⟩ = some (.int .i64 xk) ∧ w'.cell? ⟨A, 1, none⟩ = some (.int .i64 xn) ∧ w'.cell? ⟨A, 2, none⟩ = some (.string xs) ∧ w'.cell? ⟨A, 3, none⟩ = some (.int .i32 xr) ∧ w'.cell? ⟨B, 0, none⟩ = some (.int .i64 yk) ∧ w'.cell? ⟨B, 1, none⟩ = some (.int .i64 yn) ∧ w'.cell? ⟨B, 2, none⟩ = some (.string ys) ∧ w'.cell? ⟨B, 3, none⟩ = some (.int .i32 yr) ∧ Below w.heap.size w w')
    (first | exact ⟨c0, c1', c2', c3, d0, d1, d2, d3, B0.drew⟩ | exact (And.imp (cell_later hb5) (And.imp (cell_later hb5) (And.imp (cell_later hb5) (And.imp (cell_later hb5) (And.imp (cell_later hb5) (And.imp (cell_later hb5) (And.imp (cell_later hb5) (And.imp (cell_later hb5) (fun hl => keepB hl hb5))))))))) (by assumption) | exact (And.imp (cell_later hb6) (And.imp (cell_later hb6) (And.imp (cell_later hb6) (And.imp (cell_later hb6) (And.imp (cell_later hb6) (And.imp (cell_later hb6) (And.imp (cell_later hb6) (And.imp (cell_later hb6) (fun hl => keepB hl hb6))))))))) (by assumption) | exact (And.imp (cell_later hb7) (And.imp (cell_later hb7) (And.imp (cell_later hb7) (And.imp (cell_later hb7) (And.imp (cell_later hb7) (And.imp (cell_later hb7) (And.imp (cell_later hb7) (And.imp (cell_later hb7) (fun hl => keepB hl hb7))))))))) (by assumption) | exact (And.imp (cell_later hb8) (And.imp (cell_later hb8) (And.imp (cell_later hb8) (And.imp (cell_later hb8) (And.imp (cell_later hb8) (And.imp (cell_later hb8) (And.imp (cell_later hb8) (And.imp (cell_later hb8) (fun hl => keepB hl hb8))))))))) (by assumption) | exact (And.imp (cell_later hb9) (And.imp (cell_later hb9) (And.imp (cell_later hb9) (And.imp (cell_later hb9) (And.imp (cell_later hb9) (And.imp (cell_later hb9) (And.imp (cell_later hb9) (And.imp (cell_later hb9) (fun hl => keepB hl hb9))))))))) (by assumption) | exact (And.imp (cell_later hbm) (And.imp (cell_later hbm) (And.imp (cell_later hbm) (And.imp (cell_later hbm) (And.imp (cell_later hbm) (And.imp (cell_later hbm) (And.imp (cell_later hbm) (And.imp (cell_later hbm) (fun hl => keepB hl hbm))))))))) (by assumption) | exact (And.imp cell_alloc (And.imp cell_alloc (And.imp cell_alloc (And.imp cell_alloc (And.imp cell_alloc (And.imp cell_alloc (And.imp cell_alloc (And.imp cell_alloc (fun hl => below_alloc hl))))))))) (by assumption))
    (first | ((with_reducible refine (MX.out _).mono ?_); rintro e w5 ⟨rfl, hb5⟩) | ((with_reducible refine (MY.out _).mono ?_); rintro e w6 ⟨rfl, hb6⟩) | ((with_reducible refine (EXY.out _).mono ?_); rintro e w7 ⟨rfl, hb7⟩) | ((with_reducible refine (SXY.out _).mono ?_); rintro e w8 ⟨rfl, hb8⟩) | ((with_reducible refine (EXL.out _ _ (Blk.new _ _ _)).mono ?_); rintro e w9 ⟨rfl, hb9⟩) | (go_at_call 19; (with_reducible refine (ELX.out _ _ (by first | exact Blk.new _ _ _ | exact Blk.below (Blk.new _ _ _) hb5 (Blk.new _ _ _).lt)).mono ?_); rintro e wm ⟨rfl, hbm⟩))
  all_goals
   (obtain ⟨c0, c1', c2', c3, d0, d1, d2, d3, B3⟩ := (by assumption : wm.cell? ⟨A, 0, none⟩ = some (.int .i64 xk) ∧ wm.cell? ⟨A, 1, none⟩ = some (.int .i64 xn) ∧ wm.cell? ⟨A, 2, none⟩ = some (.string xs) ∧ wm.cell? ⟨A, 3, none⟩ = some (.int .i32 xr) ∧ wm.cell? ⟨B, 0, none⟩ = some (.int .i64 yk) ∧ wm.cell? ⟨B, 1, none⟩ = some (.int .i64 yn) ∧ wm.cell? ⟨B, 2, none⟩ = some (.string ys) ∧ wm.cell? ⟨B, 3, none⟩ = some (.int .i32 yr) ∧ Below w.heap.size w wm)
    have HB3 := Lib.hid B3
    clear B3
    go_wp2_with fail
    refine (HL.out _ (HQ.out.later HB3.out)).mono ?_; rintro e w10 ⟨a1, c1, rfl, o1, b10⟩
    have LA := Lib.hid (lies_own o1)
    have HB10 := Lib.hid (keepB HB3.out b10)
    have b10' := b10
    clear o1 b10
    go_wp2_with fail
    refine (HL.out _ (HQ.out.later HB10.out)).mono ?_; rintro e w11 ⟨a2, c2, rfl, o2, b11⟩
    have O2 := Lib.hid o2
    have HB11 := Lib.hid b11
    clear o2 b11
    go_wp2_with fail
    go_loopw [9, 49] (fun fine i wr => FineRel q n w11 fine i wr) (fun _ i _ => n - (intOf i).toNat)
    case atStart => exact ⟨0, Nat.zero_le _, rfl, rfl, Below.refl _ _⟩
    case round =>
      obtain ⟨k, hk, rfl, rfl, Br⟩ := hrel
      have HBr := Lib.hid Br
      clear Br
      by_cases hlt : k < n
      · obtain ⟨bl, off, rfl, hc⟩ := HQ.out (by omega)
        obtain ⟨e0, e1, e2, e3⟩ := (((hc k hlt).later HB10.out).later HB11.out).later HBr.out
        have K := Lib.hid (kind_any (q k))
        have HS := Lib.hid (allV_succ q k)
        clear hc c0 c1' c2' c3 d0 d1 d2 d3
        generalize allV q k = fk at *
        generalize hqk : q k = z at *
        clear hqk
        obtain ⟨zk, zn, zs, zr⟩ := z
        simp only [Raw.val, Raw.cs] at K e0 e1 e2 e3
        generalize (Raw.mk zk zn zs zr).kind = kz at *
        have i0' : (0 : Int) ≤ (k : Int) := Int.natCast_nonneg _
        have i1' : (k : Int) < (n : Int) := by omega
        cases fk
        · go_wp2_with fail
          exact ⟨⟨k + 1, by omega, by go_num, by rw [HS.out]; rfl, below_alloc HBr.out⟩, by simp [intOf]; omega⟩
        · go_wp2_with fail
          refine (K.out _).mono ?_; rintro e w12 ⟨rfl, hb12⟩
          go_wp2_with fail
          exact ⟨⟨k + 1, by omega, by go_num, by rw [HS.out]; rfl, keepB (below_alloc HBr.out) hb12⟩, by simp [intOf]; omega⟩
      · obtain rfl : k = n := by omega
        have EAB := Lib.hid (fun w h h' => equal_lists a1 a2 k c1 k c2 q q w h h' (by omega) (by omega))
        rw [onesEq_atoms] at EAB
        generalize allV q k = fv at *
        have HA1 := Lib.hid ((LA.out.keep (Keeps.below HB11.out)).keep (Keeps.below HBr.out))
        have OB1 := Lib.hid (own_later O2.out HBr.out)
        have HB12 := Lib.hid (keepB HB11.out HBr.out)
        have HW12 := Lib.hid (keepB (keepB HB10.out HB11.out) HBr.out)
        clear O2 HBr HB11
        go_wp2_with fail
        refine (EAB.out _ HA1.out (lies_own OB1.out)).mono ?_; rintro e w12 ⟨rfl, hb12⟩
        have OB2 := Lib.hid (own_later OB1.out hb12)
        have HB13 := Lib.hid (keepB HB12.out hb12)
        clear HA1 OB1 HB12 HW12 hb12 EAB
        obtain ⟨i0, hi0, hz0, hz1, hz2⟩ := info_parts info_any
        go_wp2_with (at_builtin
                     refine wpList_append_keep _ (by rfl) (.tmp 70) (.tmp 72) 33 rfl w10.heap.size 20 i0 _ 16 Tryd.underlying33 hi0 hz0 hz1 hz2 rfl _ k (items q k) rfl
                       (OB2.out.alloc _) ⟨w12.heap.size, 0, none⟩ 1 (.iface 3 (.int .i64 1)) rfl ?c1 rfl (by simp only [maxLen]; omega) (by omega) (by have := HB13.out.size; simp; omega) ?_)
        case c1 => rw [Addr.add_lit, Nat.zero_add]; exact (Blk.new _ _ _).cell 0
        intro v' w13 ho' ho b13
        rw [← items_qm] at ho'
        obtain ⟨g', cap', rfl⟩ : ∃ g' cap', v' = .slice (some ⟨g', 0, none⟩) (k + 1) cap' := by
          rcases ho'.2 with ⟨_, h0⟩ | ⟨g, cap, cur, hv, _⟩
          · exact absurd h0 (by omega)
          · exact ⟨g, cap, hv⟩
        have HB14 : Hid (Below w10.heap.size w10 w13) := (HB13.out.alloc (by have := HB13.out.size; omega) _).trans b13
        have LA2 := Lib.hid (LA.out.keep (Keeps.below HB14.out))
        have LB2 := Lib.hid (lies_own ho)
        have LM2 := Lib.hid (lies_own ho')
        clear OB2 HB13 ho ho' b13 hi0 hz0 hz1 hz2
        go_wp2_with fail
        refine (EM.out _ _ _ _ _ LA2.out LM2.out).mono ?_; rintro e w14 ⟨rfl, hb14⟩
        have LA := Lib.hid (LA2.out.keep (Keeps.below hb14))
        have LB := Lib.hid (LB2.out.keep (Keeps.below hb14))
        have HB15 := Lib.hid (keepB HB14.out hb14)
        have HW15 := Lib.hid (keepB HB10.out HB15.out)
        replace c0 := cell_later HB15.out (cell_later b10' c0); replace c1' := cell_later HB15.out (cell_later b10' c1'); replace c2' := cell_later HB15.out (cell_later b10' c2'); replace c3 := cell_later HB15.out (cell_later b10' c3)
        replace d0 := cell_later HB15.out (cell_later b10' d0); replace d1 := cell_later HB15.out (cell_later b10' d1); replace d2 := cell_later HB15.out (cell_later b10' d2); replace d3 := cell_later HB15.out (cell_later b10' d3)
        clear LA2 LB2 LM2 HB14 HB15 hb14 HB10 HB3 EM HL b10'
        go_wp2_with fail
        replace EPP := Lib.hid (EPP.out a1 a2 c1 c2)
        cases fv
        case true =>
           simp only [Bool.true_and] at EPP
           first | go_region_held3 (fun w' => w'.cell? ⟨A, 0, none⟩ = some (.int .i64 xk) ∧ w'.cell? ⟨A, 1, none⟩ = some (.int .i64 xn) ∧ w'.cell? ⟨A, 2, none⟩ = some (.string xs) ∧ w'.cell? ⟨A, 3, none⟩ = some (.int .i32 xr) ∧ w'.cell? ⟨B, 0, none⟩ = some (.int .i64 yk) ∧ w'.cell? ⟨B, 1, none⟩ = some (.int .i64 yn) ∧ w'.cell? ⟨B, 2, none⟩ = some (.string ys) ∧ w'.cell? ⟨B, 3, none⟩ = some (.int .i32 yr) ∧ Below w.heap.size w w' ∧ LL w' a1 k c1 q ∧ LL w' a2 k c2 q)
             (first | assumption | exact ⟨c0, c1', c2', c3, d0, d1, d2, d3, HW15.out.drew, (LL.mk LA.out).drew, (LL.mk LB.out).drew⟩ | exact (And.imp (cell_later hb5) (And.imp (cell_later hb5) (And.imp (cell_later hb5) (And.imp (cell_later hb5) (And.imp (cell_later hb5) (And.imp (cell_later hb5) (And.imp (cell_later hb5) (And.imp (cell_later hb5) (And.imp (fun hl => keepB hl hb5) (And.imp (LL.later hb5) (LL.later hb5))))))))))) (by assumption) | exact (And.imp (cell_later hb6) (And.imp (cell_later hb6) (And.imp (cell_later hb6) (And.imp (cell_later hb6) (And.imp (cell_later hb6) (And.imp (cell_later hb6) (And.imp (cell_later hb6) (And.imp (cell_later hb6) (And.imp (fun hl => keepB hl hb6) (And.imp (LL.later hb6) (LL.later hb6))))))))))) (by assumption) | exact (And.imp (cell_later hb8) (And.imp (cell_later hb8) (And.imp (cell_later hb8) (And.imp (cell_later hb8) (And.imp (cell_later hb8) (And.imp (cell_later hb8) (And.imp (cell_later hb8) (And.imp (cell_later hb8) (And.imp (fun hl => keepB hl hb8) (And.imp (LL.later hb8) (LL.later hb8))))))))))) (by assumption) | exact (And.imp (cell_later hb15) (And.imp (cell_later hb15) (And.imp (cell_later hb15) (And.imp (cell_later hb15) (And.imp (cell_later hb15) (And.imp (cell_later hb15) (And.imp (cell_later hb15) (And.imp (cell_later hb15) (And.imp (fun hl => keepB hl hb15) (And.imp (LL.later hb15) (LL.later hb15))))))))))) (by assumption) | exact (And.imp (cell_later hb16) (And.imp (cell_later hb16) (And.imp (cell_later hb16) (And.imp (cell_later hb16) (And.imp (cell_later hb16) (And.imp (cell_later hb16) (And.imp (cell_later hb16) (And.imp (cell_later hb16) (And.imp (fun hl => keepB hl hb16) (And.imp (LL.later hb16) (LL.later hb16))))))))))) (by assumption) | exact (And.imp cell_alloc (And.imp cell_alloc (And.imp cell_alloc (And.imp cell_alloc (And.imp cell_alloc (And.imp cell_alloc (And.imp cell_alloc (And.imp cell_alloc (And.imp (fun hl => below_alloc hl) (And.imp LL.alloc LL.alloc)))))))))) (by assumption))
             (first | ((with_reducible refine (MX.out _).mono ?_); rintro e w5 ⟨rfl, hb5⟩) | ((with_reducible refine (MY.out _).mono ?_); rintro e w6 ⟨rfl, hb6⟩) | (go_at_call 19; (with_reducible refine (EPP.out _ _ _ (by with_reducible first | exact blk_past hb6 _ | exact (Blk.new w6 20 #[.iface 33 (.slice a1 k c1), .iface ux zx]).alloc _ | exact Blk.new2 w6 _ 20 #[.iface 33 (.slice a1 k c1), .iface ux zx]) (by with_reducible first | exact Blk.new w6 20 #[.iface 33 (.slice a2 k c2), .iface uy zy] | exact Blk.new2 w6 _ 20 #[.iface 33 (.slice a2 k c2), .iface uy zy] | exact (Blk.new w6 20 #[.iface 33 (.slice a2 k c2), .iface uy zy]).alloc _) (by go_split_ands; with_reducible assumption) (by go_split_ands; with_reducible assumption)).mono ?_); rintro e w15 ⟨rfl, hb15⟩) | ((with_reducible refine (SXY.out _).mono ?_); rintro e w8 ⟨rfl, hb8⟩) | ((with_reducible refine (awake_any _).mono ?_); rintro e w16 ⟨rfl, hb16⟩)) | fail
           all_goals
             (obtain ⟨_, _, _, _, _, _, _, _, HBf, _, _⟩ := (by assumption : w16.cell? ⟨A, 0, none⟩ = some (.int .i64 xk) ∧ w16.cell? ⟨A, 1, none⟩ = some (.int .i64 xn) ∧ w16.cell? ⟨A, 2, none⟩ = some (.string xs) ∧ w16.cell? ⟨A, 3, none⟩ = some (.int .i32 xr) ∧ w16.cell? ⟨B, 0, none⟩ = some (.int .i64 yk) ∧ w16.cell? ⟨B, 1, none⟩ = some (.int .i64 yn) ∧ w16.cell? ⟨B, 2, none⟩ = some (.string ys) ∧ w16.cell? ⟨B, 3, none⟩ = some (.int .i32 yr) ∧ Below w.heap.size w w16 ∧ LL w16 a1 k c1 q ∧ LL w16 a2 k c2 q)
              go_wp2_with fail
              go_ret
              first | exact ⟨rfl, HBf⟩ | (subst hA; exact ⟨rfl, HBf⟩))
        case false =>
           simp only [Bool.false_and] at EPP
           refine wp_region_noPanic ?_
           refine wp_region_held_drew (S := fun w' => w'.cell? ⟨A, 0, none⟩ = some (.int .i64 xk) ∧ w'.cell? ⟨A, 1, none⟩ = some (.int .i64 xn) ∧ w'.cell? ⟨A, 2, none⟩ = some (.string xs) ∧ w'.cell? ⟨A, 3, none⟩ = some (.int .i32 xr) ∧ w'.cell? ⟨B, 0, none⟩ = some (.int .i64 yk) ∧ w'.cell? ⟨B, 1, none⟩ = some (.int .i64 yn) ∧ w'.cell? ⟨B, 2, none⟩ = some (.string ys) ∧ w'.cell? ⟨B, 3, none⟩ = some (.int .i32 yr) ∧ Below w.heap.size w w' ∧ LL w' a1 k c1 q ∧ LL w' a2 k c2 q) (by kernel_rfl) ?_ (fun hHeld => ?_)
           · (try dsimp only); exact ⟨c0, c1', c2', c3, d0, d1, d2, d3, HW15.out.drew, (LL.mk LA.out).drew, (LL.mk LB.out).drew⟩
           refine wpAnyH_take (i := 0) (v := ?_) rfl (by kernel_rfl) (by kernel_rfl) (by kernel_rfl) (fun _ _ _ h => h) (Or.inl ⟨by rfl, ?_⟩) (by assumption) ?_
           rotate_left
           · (intro w hSw; (try dsimp only at hSw); go_simp; try with_reducible rfl)
           try simp only [Act.put, List.setIfInBounds_toArray, List.set_cons_zero, List.set_cons_succ, List.getElem_toArray, List.getElem_cons_zero, List.getElem_cons_succ]
           refine wpAnyH_take (i := 1) (v := ?_) rfl (by kernel_rfl) (by kernel_rfl) (by kernel_rfl) (fun _ _ _ h => h) (Or.inl ⟨by rfl, ?_⟩) (by assumption) ?_
           rotate_left
           · (intro w hSw; (try dsimp only at hSw); go_simp; try with_reducible rfl)
           try simp only [Act.put, List.setIfInBounds_toArray, List.set_cons_zero, List.set_cons_succ, List.getElem_toArray, List.getElem_cons_zero, List.getElem_cons_succ]
           refine wpAnyH_take (i := 2) (v := ?_) rfl (by kernel_rfl) (by kernel_rfl) (by kernel_rfl) (fun _ _ _ h => h) (Or.inl ⟨by rfl, ?_⟩) (by assumption) ?_
           rotate_left
           · (intro w hSw; (try dsimp only at hSw); go_simp; try with_reducible rfl)
           try simp only [Act.put, List.setIfInBounds_toArray, List.set_cons_zero, List.set_cons_succ, List.getElem_toArray, List.getElem_cons_zero, List.getElem_cons_succ]
           refine wpAnyH_take (i := 6) (v := ?_) rfl (by kernel_rfl) (by kernel_rfl) (by kernel_rfl) (fun _ _ _ h => h) (Or.inl ⟨by rfl, ?_⟩) (by assumption) ?_
           rotate_left
           · (intro w hSw; (try dsimp only at hSw); go_simp; try with_reducible rfl)
           try simp only [Act.put, List.setIfInBounds_toArray, List.set_cons_zero, List.set_cons_succ, List.getElem_toArray, List.getElem_cons_zero, List.getElem_cons_succ]
           refine wpAnyH_take (i := 7) (v := ?_) rfl (by kernel_rfl) (by kernel_rfl) (by kernel_rfl) (fun _ _ _ h => h) (Or.inl ⟨by rfl, ?_⟩) (by assumption) ?_
           rotate_left
           · (intro w hSw; (try dsimp only at hSw); go_simp; try with_reducible rfl)
           try simp only [Act.put, List.setIfInBounds_toArray, List.set_cons_zero, List.set_cons_succ, List.getElem_toArray, List.getElem_cons_zero, List.getElem_cons_succ]
           refine wpAnyH_take (i := 8) (v := ?_) rfl (by kernel_rfl) (by kernel_rfl) (by kernel_rfl) (fun _ _ _ h => h) (Or.inl ⟨by rfl, ?_⟩) (by assumption) ?_
           rotate_left
           · (intro w hSw; (try dsimp only at hSw); go_simp; try with_reducible rfl)
           try simp only [Act.put, List.setIfInBounds_toArray, List.set_cons_zero, List.set_cons_succ, List.getElem_toArray, List.getElem_cons_zero, List.getElem_cons_succ]
           refine wpAnyH_take (i := 13) (v := ?_) rfl (by kernel_rfl) (by kernel_rfl) (by kernel_rfl) (fun _ _ _ h => h) (Or.inl ⟨by rfl, ?_⟩) (by assumption) ?_
           rotate_left
           · (intro w hSw; (try dsimp only at hSw); go_simp; try with_reducible rfl)
           try simp only [Act.put, List.setIfInBounds_toArray, List.set_cons_zero, List.set_cons_succ, List.getElem_toArray, List.getElem_cons_zero, List.getElem_cons_succ]
           refine wpAnyH_ready (rs := [3]) (by kernel_rfl) (by simp) ?_
           refine AllReadyH.cons rfl (fun K hK => ?_) ?_
           · go_simp
             ((with_reducible refine (MX.out _).mono ?_); rintro e w5 ⟨rfl, hb5⟩)
             go_wp2_with fail
             refine hK.out _ _ ?_ (fun hHeld => ?_)
             · (try dsimp only); first | assumption | exact ⟨c0, c1', c2', c3, d0, d1, d2, d3, HW15.out.drew, (LL.mk LA.out).drew, (LL.mk LB.out).drew⟩ | exact (And.imp (cell_later hb5) (And.imp (cell_later hb5) (And.imp (cell_later hb5) (And.imp (cell_later hb5) (And.imp (cell_later hb5) (And.imp (cell_later hb5) (And.imp (cell_later hb5) (And.imp (cell_later hb5) (And.imp (fun hl => keepB hl hb5) (And.imp (LL.later hb5) (LL.later hb5))))))))))) (by assumption) | exact (And.imp (cell_later hb6) (And.imp (cell_later hb6) (And.imp (cell_later hb6) (And.imp (cell_later hb6) (And.imp (cell_later hb6) (And.imp (cell_later hb6) (And.imp (cell_later hb6) (And.imp (cell_later hb6) (And.imp (fun hl => keepB hl hb6) (And.imp (LL.later hb6) (LL.later hb6))))))))))) (by assumption) | exact (And.imp (cell_later hb15) (And.imp (cell_later hb15) (And.imp (cell_later hb15) (And.imp (cell_later hb15) (And.imp (cell_later hb15) (And.imp (cell_later hb15) (And.imp (cell_later hb15) (And.imp (cell_later hb15) (And.imp (fun hl => keepB hl hb15) (And.imp (LL.later hb15) (LL.later hb15))))))))))) (by assumption) | exact (And.imp (cell_later hb16) (And.imp (cell_later hb16) (And.imp (cell_later hb16) (And.imp (cell_later hb16) (And.imp (cell_later hb16) (And.imp (cell_later hb16) (And.imp (cell_later hb16) (And.imp (cell_later hb16) (And.imp (fun hl => keepB hl hb16) (And.imp (LL.later hb16) (LL.later hb16))))))))))) (by assumption) | exact (And.imp cell_alloc (And.imp cell_alloc (And.imp cell_alloc (And.imp cell_alloc (And.imp cell_alloc (And.imp cell_alloc (And.imp cell_alloc (And.imp cell_alloc (And.imp (fun hl => below_alloc hl) (And.imp LL.alloc LL.alloc)))))))))) (by assumption)
             clear hK K
             try simp only [Act.put, List.setIfInBounds_toArray, List.set_cons_zero, List.set_cons_succ, List.getElem_toArray, List.getElem_cons_zero, List.getElem_cons_succ]
             refine wpAnyH_ready (rs := [4, 9]) (by kernel_rfl) (by simp) ?_
             refine AllReadyH.cons rfl (fun K hK => ?_) ?_
             · go_simp
               refine hK.out _ _ ?_ (fun hHeld => ?_)
               · (try dsimp only); first | assumption | exact ⟨c0, c1', c2', c3, d0, d1, d2, d3, HW15.out.drew, (LL.mk LA.out).drew, (LL.mk LB.out).drew⟩ | exact (And.imp (cell_later hb5) (And.imp (cell_later hb5) (And.imp (cell_later hb5) (And.imp (cell_later hb5) (And.imp (cell_later hb5) (And.imp (cell_later hb5) (And.imp (cell_later hb5) (And.imp (cell_later hb5) (And.imp (fun hl => keepB hl hb5) (And.imp (LL.later hb5) (LL.later hb5))))))))))) (by assumption) | exact (And.imp (cell_later hb6) (And.imp (cell_later hb6) (And.imp (cell_later hb6) (And.imp (cell_later hb6) (And.imp (cell_later hb6) (And.imp (cell_later hb6) (And.imp (cell_later hb6) (And.imp (cell_later hb6) (And.imp (fun hl => keepB hl hb6) (And.imp (LL.later hb6) (LL.later hb6))))))))))) (by assumption) | exact (And.imp (cell_later hb15) (And.imp (cell_later hb15) (And.imp (cell_later hb15) (And.imp (cell_later hb15) (And.imp (cell_later hb15) (And.imp (cell_later hb15) (And.imp (cell_later hb15) (And.imp (cell_later hb15) (And.imp (fun hl => keepB hl hb15) (And.imp (LL.later hb15) (LL.later hb15))))))))))) (by assumption) | exact (And.imp (cell_later hb16) (And.imp (cell_later hb16) (And.imp (cell_later hb16) (And.imp (cell_later hb16) (And.imp (cell_later hb16) (And.imp (cell_later hb16) (And.imp (cell_later hb16) (And.imp (cell_later hb16) (And.imp (fun hl => keepB hl hb16) (And.imp (LL.later hb16) (LL.later hb16))))))))))) (by assumption) | exact (And.imp cell_alloc (And.imp cell_alloc (And.imp cell_alloc (And.imp cell_alloc (And.imp cell_alloc (And.imp cell_alloc (And.imp cell_alloc (And.imp cell_alloc (And.imp (fun hl => below_alloc hl) (And.imp LL.alloc LL.alloc)))))))))) (by assumption)
               clear hK K
               try simp only [Act.put, List.setIfInBounds_toArray, List.set_cons_zero, List.set_cons_succ, List.getElem_toArray, List.getElem_cons_zero, List.getElem_cons_succ]
               refine wpAnyH_take (i := 5) (v := ?_) rfl (by kernel_rfl) (by kernel_rfl) (by kernel_rfl) (fun _ _ _ h => h) (Or.inl ⟨by rfl, ?_⟩) (by assumption) ?_
               rotate_left
               · (intro w hSw; (try dsimp only at hSw); go_simp; try with_reducible rfl)
               try simp only [Act.put, List.setIfInBounds_toArray, List.set_cons_zero, List.set_cons_succ, List.getElem_toArray, List.getElem_cons_zero, List.getElem_cons_succ]
               refine wpAnyH_ready (rs := [9]) (by kernel_rfl) (by simp) ?_
               refine AllReadyH.cons rfl (fun K hK => ?_) ?_
               · go_simp
                 ((with_reducible refine (MY.out _).mono ?_); rintro e w6 ⟨rfl, hb6⟩)
                 go_wp2_with fail
                 refine hK.out _ _ ?_ (fun hHeld => ?_)
                 · (try dsimp only); first | assumption | exact ⟨c0, c1', c2', c3, d0, d1, d2, d3, HW15.out.drew, (LL.mk LA.out).drew, (LL.mk LB.out).drew⟩ | exact (And.imp (cell_later hb5) (And.imp (cell_later hb5) (And.imp (cell_later hb5) (And.imp (cell_later hb5) (And.imp (cell_later hb5) (And.imp (cell_later hb5) (And.imp (cell_later hb5) (And.imp (cell_later hb5) (And.imp (fun hl => keepB hl hb5) (And.imp (LL.later hb5) (LL.later hb5))))))))))) (by assumption) | exact (And.imp (cell_later hb6) (And.imp (cell_later hb6) (And.imp (cell_later hb6) (And.imp (cell_later hb6) (And.imp (cell_later hb6) (And.imp (cell_later hb6) (And.imp (cell_later hb6) (And.imp (cell_later hb6) (And.imp (fun hl => keepB hl hb6) (And.imp (LL.later hb6) (LL.later hb6))))))))))) (by assumption) | exact (And.imp (cell_later hb15) (And.imp (cell_later hb15) (And.imp (cell_later hb15) (And.imp (cell_later hb15) (And.imp (cell_later hb15) (And.imp (cell_later hb15) (And.imp (cell_later hb15) (And.imp (cell_later hb15) (And.imp (fun hl => keepB hl hb15) (And.imp (LL.later hb15) (LL.later hb15))))))))))) (by assumption) | exact (And.imp (cell_later hb16) (And.imp (cell_later hb16) (And.imp (cell_later hb16) (And.imp (cell_later hb16) (And.imp (cell_later hb16) (And.imp (cell_later hb16) (And.imp (cell_later hb16) (And.imp (cell_later hb16) (And.imp (fun hl => keepB hl hb16) (And.imp (LL.later hb16) (LL.later hb16))))))))))) (by assumption) | exact (And.imp cell_alloc (And.imp cell_alloc (And.imp cell_alloc (And.imp cell_alloc (And.imp cell_alloc (And.imp cell_alloc (And.imp cell_alloc (And.imp cell_alloc (And.imp (fun hl => below_alloc hl) (And.imp LL.alloc LL.alloc)))))))))) (by assumption)
                 clear hK K
                 try simp only [Act.put, List.setIfInBounds_toArray, List.set_cons_zero, List.set_cons_succ, List.getElem_toArray, List.getElem_cons_zero, List.getElem_cons_succ]
                 refine wpAnyH_ready (rs := [10]) (by kernel_rfl) (by simp) ?_
                 refine AllReadyH.cons rfl (fun K hK => ?_) ?_
                 · go_simp
                   refine hK.out _ _ ?_ (fun hHeld => ?_)
                   · (try dsimp only); first | assumption | exact ⟨c0, c1', c2', c3, d0, d1, d2, d3, HW15.out.drew, (LL.mk LA.out).drew, (LL.mk LB.out).drew⟩ | exact (And.imp (cell_later hb5) (And.imp (cell_later hb5) (And.imp (cell_later hb5) (And.imp (cell_later hb5) (And.imp (cell_later hb5) (And.imp (cell_later hb5) (And.imp (cell_later hb5) (And.imp (cell_later hb5) (And.imp (fun hl => keepB hl hb5) (And.imp (LL.later hb5) (LL.later hb5))))))))))) (by assumption) | exact (And.imp (cell_later hb6) (And.imp (cell_later hb6) (And.imp (cell_later hb6) (And.imp (cell_later hb6) (And.imp (cell_later hb6) (And.imp (cell_later hb6) (And.imp (cell_later hb6) (And.imp (cell_later hb6) (And.imp (fun hl => keepB hl hb6) (And.imp (LL.later hb6) (LL.later hb6))))))))))) (by assumption) | exact (And.imp (cell_later hb15) (And.imp (cell_later hb15) (And.imp (cell_later hb15) (And.imp (cell_later hb15) (And.imp (cell_later hb15) (And.imp (cell_later hb15) (And.imp (cell_later hb15) (And.imp (cell_later hb15) (And.imp (fun hl => keepB hl hb15) (And.imp (LL.later hb15) (LL.later hb15))))))))))) (by assumption) | exact (And.imp (cell_later hb16) (And.imp (cell_later hb16) (And.imp (cell_later hb16) (And.imp (cell_later hb16) (And.imp (cell_later hb16) (And.imp (cell_later hb16) (And.imp (cell_later hb16) (And.imp (cell_later hb16) (And.imp (fun hl => keepB hl hb16) (And.imp (LL.later hb16) (LL.later hb16))))))))))) (by assumption) | exact (And.imp cell_alloc (And.imp cell_alloc (And.imp cell_alloc (And.imp cell_alloc (And.imp cell_alloc (And.imp cell_alloc (And.imp cell_alloc (And.imp cell_alloc (And.imp (fun hl => below_alloc hl) (And.imp LL.alloc LL.alloc)))))))))) (by assumption)
                   clear hK K
                   try simp only [Act.put, List.setIfInBounds_toArray, List.set_cons_zero, List.set_cons_succ, List.getElem_toArray, List.getElem_cons_zero, List.getElem_cons_succ]
                   refine wpAnyH_take (i := 11) (v := ?_) rfl (by kernel_rfl) (by kernel_rfl) (by kernel_rfl) (fun _ _ _ h => h) (Or.inl ⟨by rfl, ?_⟩) (by assumption) ?_
                   rotate_left
                   · (intro w hSw; (try dsimp only at hSw); go_simp; try with_reducible rfl)
                   try simp only [Act.put, List.setIfInBounds_toArray, List.set_cons_zero, List.set_cons_succ, List.getElem_toArray, List.getElem_cons_zero, List.getElem_cons_succ]
                   refine wpAnyH_ready (rs := [12]) (by kernel_rfl) (by simp) ?_
                   refine AllReadyH.cons rfl (fun K hK => ?_) ?_
                   · go_simp
                     ((with_reducible refine (EPP.out _ _ _ (blk_past hb6 _) (Blk.new w6 20 #[.iface 33 (.slice a2 k c2), .iface uy zy]) (by go_split_ands; with_reducible assumption) (by go_split_ands; with_reducible assumption)).mono ?_); rintro e w15 ⟨rfl, hb15⟩)
                     go_wp2_with fail
                     refine hK.out _ _ ?_ (fun hHeld => ?_)
                     · (try dsimp only); first | assumption | exact ⟨c0, c1', c2', c3, d0, d1, d2, d3, HW15.out.drew, (LL.mk LA.out).drew, (LL.mk LB.out).drew⟩ | exact (And.imp (cell_later hb5) (And.imp (cell_later hb5) (And.imp (cell_later hb5) (And.imp (cell_later hb5) (And.imp (cell_later hb5) (And.imp (cell_later hb5) (And.imp (cell_later hb5) (And.imp (cell_later hb5) (And.imp (fun hl => keepB hl hb5) (And.imp (LL.later hb5) (LL.later hb5))))))))))) (by assumption) | exact (And.imp (cell_later hb6) (And.imp (cell_later hb6) (And.imp (cell_later hb6) (And.imp (cell_later hb6) (And.imp (cell_later hb6) (And.imp (cell_later hb6) (And.imp (cell_later hb6) (And.imp (cell_later hb6) (And.imp (fun hl => keepB hl hb6) (And.imp (LL.later hb6) (LL.later hb6))))))))))) (by assumption) | exact (And.imp (cell_later hb15) (And.imp (cell_later hb15) (And.imp (cell_later hb15) (And.imp (cell_later hb15) (And.imp (cell_later hb15) (And.imp (cell_later hb15) (And.imp (cell_later hb15) (And.imp (cell_later hb15) (And.imp (fun hl => keepB hl hb15) (And.imp (LL.later hb15) (LL.later hb15))))))))))) (by assumption) | exact (And.imp (cell_later hb16) (And.imp (cell_later hb16) (And.imp (cell_later hb16) (And.imp (cell_later hb16) (And.imp (cell_later hb16) (And.imp (cell_later hb16) (And.imp (cell_later hb16) (And.imp (cell_later hb16) (And.imp (fun hl => keepB hl hb16) (And.imp (LL.later hb16) (LL.later hb16))))))))))) (by assumption) | exact (And.imp cell_alloc (And.imp cell_alloc (And.imp cell_alloc (And.imp cell_alloc (And.imp cell_alloc (And.imp cell_alloc (And.imp cell_alloc (And.imp cell_alloc (And.imp (fun hl => below_alloc hl) (And.imp LL.alloc LL.alloc)))))))))) (by assumption)
                     clear hK K
                     try simp only [Act.put, List.setIfInBounds_toArray, List.set_cons_zero, List.set_cons_succ, List.getElem_toArray, List.getElem_cons_zero, List.getElem_cons_succ]
                     refine wpAnyH_take (i := 14) (v := ?_) rfl (by kernel_rfl) (by kernel_rfl) (by kernel_rfl) (fun _ _ _ h => h) (Or.inl ⟨by rfl, ?_⟩) (by assumption) ?_
                     rotate_left
                     · (intro w hSw; (try dsimp only at hSw); go_simp; try with_reducible rfl)
                     try simp only [Act.put, List.setIfInBounds_toArray, List.set_cons_zero, List.set_cons_succ, List.getElem_toArray, List.getElem_cons_zero, List.getElem_cons_succ]
                     refine wpAnyH_take (i := 15) rfl (by kernel_rfl) (by kernel_rfl) (by kernel_rfl) (fun _ _ _ h => h) (Or.inr ⟨by rfl, rfl⟩) (by assumption) ?_
                     try simp only [Act.put, List.setIfInBounds_toArray, List.set_cons_zero, List.set_cons_succ, List.getElem_toArray, List.getElem_cons_zero, List.getElem_cons_succ]
                     refine wpAnyH_take (i := 16) rfl (by kernel_rfl) (by kernel_rfl) (by kernel_rfl) (fun _ _ _ h => h) (Or.inr ⟨by rfl, rfl⟩) (by assumption) ?_
                     try simp only [Act.put, List.setIfInBounds_toArray, List.set_cons_zero, List.set_cons_succ, List.getElem_toArray, List.getElem_cons_zero, List.getElem_cons_succ]
                     refine wpAnyH_take (i := 17) rfl (by kernel_rfl) (by kernel_rfl) (by kernel_rfl) (fun _ _ _ h => h) (Or.inr ⟨by rfl, rfl⟩) (by assumption) ?_
                     try simp only [Act.put, List.setIfInBounds_toArray, List.set_cons_zero, List.set_cons_succ, List.getElem_toArray, List.getElem_cons_zero, List.getElem_cons_succ]
                     refine wpAnyH_take (i := 18) (v := ?_) rfl (by kernel_rfl) (by kernel_rfl) (by kernel_rfl) (fun _ _ _ h => h) (Or.inl ⟨by rfl, ?_⟩) (by assumption) ?_
                     rotate_left
                     · (intro w hSw; (try dsimp only at hSw); go_simp; try with_reducible rfl)
                     try simp only [Act.put, List.setIfInBounds_toArray, List.set_cons_zero, List.set_cons_succ, List.getElem_toArray, List.getElem_cons_zero, List.getElem_cons_succ]
                     refine wpAnyH_take (i := 19) (v := ?_) rfl (by kernel_rfl) (by kernel_rfl) (by kernel_rfl) (fun _ _ _ h => h) (Or.inl ⟨by rfl, ?_⟩) (by assumption) ?_
                     rotate_left
                     · (intro w hSw; (try dsimp only at hSw); go_simp; try with_reducible rfl)
                     try simp only [Act.put, List.setIfInBounds_toArray, List.set_cons_zero, List.set_cons_succ, List.getElem_toArray, List.getElem_cons_zero, List.getElem_cons_succ]
                     refine wpAnyH_take (i := 20) (v := ?_) rfl (by kernel_rfl) (by kernel_rfl) (by kernel_rfl) (fun _ _ _ h => h) (Or.inl ⟨by rfl, ?_⟩) (by assumption) ?_
                     rotate_left
                     · (intro w hSw; (try dsimp only at hSw); go_simp; try with_reducible rfl)
                     try simp only [Act.put, List.setIfInBounds_toArray, List.set_cons_zero, List.set_cons_succ, List.getElem_toArray, List.getElem_cons_zero, List.getElem_cons_succ]
                     refine wpAnyH_ready (rs := [21]) (by kernel_rfl) (by simp) ?_
                     refine AllReadyH.cons rfl (fun K hK => ?_) ?_
                     · go_simp
                       ((with_reducible refine (awake_any _).mono ?_); rintro e w16 ⟨rfl, hb16⟩)
                       go_wp2_with fail
                       refine hK.out _ _ ?_ (fun hHeld => ?_)
                       · (try dsimp only); first | assumption | exact ⟨c0, c1', c2', c3, d0, d1, d2, d3, HW15.out.drew, (LL.mk LA.out).drew, (LL.mk LB.out).drew⟩ | exact (And.imp (cell_later hb5) (And.imp (cell_later hb5) (And.imp (cell_later hb5) (And.imp (cell_later hb5) (And.imp (cell_later hb5) (And.imp (cell_later hb5) (And.imp (cell_later hb5) (And.imp (cell_later hb5) (And.imp (fun hl => keepB hl hb5) (And.imp (LL.later hb5) (LL.later hb5))))))))))) (by assumption) | exact (And.imp (cell_later hb6) (And.imp (cell_later hb6) (And.imp (cell_later hb6) (And.imp (cell_later hb6) (And.imp (cell_later hb6) (And.imp (cell_later hb6) (And.imp (cell_later hb6) (And.imp (cell_later hb6) (And.imp (fun hl => keepB hl hb6) (And.imp (LL.later hb6) (LL.later hb6))))))))))) (by assumption) | exact (And.imp (cell_later hb15) (And.imp (cell_later hb15) (And.imp (cell_later hb15) (And.imp (cell_later hb15) (And.imp (cell_later hb15) (And.imp (cell_later hb15) (And.imp (cell_later hb15) (And.imp (cell_later hb15) (And.imp (fun hl => keepB hl hb15) (And.imp (LL.later hb15) (LL.later hb15))))))))))) (by assumption) | exact (And.imp (cell_later hb16) (And.imp (cell_later hb16) (And.imp (cell_later hb16) (And.imp (cell_later hb16) (And.imp (cell_later hb16) (And.imp (cell_later hb16) (And.imp (cell_later hb16) (And.imp (cell_later hb16) (And.imp (fun hl => keepB hl hb16) (And.imp (LL.later hb16) (LL.later hb16))))))))))) (by assumption) | exact (And.imp cell_alloc (And.imp cell_alloc (And.imp cell_alloc (And.imp cell_alloc (And.imp cell_alloc (And.imp cell_alloc (And.imp cell_alloc (And.imp cell_alloc (And.imp (fun hl => below_alloc hl) (And.imp LL.alloc LL.alloc)))))))))) (by assumption)
                       clear hK K
                       try simp only [Act.put, List.setIfInBounds_toArray, List.set_cons_zero, List.set_cons_succ, List.getElem_toArray, List.getElem_cons_zero, List.getElem_cons_succ]
                       refine wpAnyH_take (i := 22) (v := ?_) rfl (by kernel_rfl) (by kernel_rfl) (by kernel_rfl) (fun _ _ _ h => h) (Or.inl ⟨by rfl, ?_⟩) (by assumption) ?_
                       rotate_left
                       · (intro w hSw; (try dsimp only at hSw); go_simp; try with_reducible rfl)
                       try simp only [Act.put, List.setIfInBounds_toArray, List.set_cons_zero, List.set_cons_succ, List.getElem_toArray, List.getElem_cons_zero, List.getElem_cons_succ]
                       refine wpAnyH_take (i := 23) (v := ?_) rfl (by kernel_rfl) (by kernel_rfl) (by kernel_rfl) (fun _ _ _ h => h) (Or.inl ⟨by rfl, ?_⟩) (by assumption) ?_
                       rotate_left
                       · (intro w hSw; (try dsimp only at hSw); go_simp; try with_reducible rfl)
                       try simp only [Act.put, List.setIfInBounds_toArray, List.set_cons_zero, List.set_cons_succ, List.getElem_toArray, List.getElem_cons_zero, List.getElem_cons_succ]
                       refine wpAnyH_done (by kernel_rfl) ?_ _
                       refine NoPanic.normal ?_
                       obtain ⟨_, _, _, _, _, _, _, _, HBf, _, _⟩ := (by assumption : w16.cell? ⟨A, 0, none⟩ = some (.int .i64 xk) ∧ w16.cell? ⟨A, 1, none⟩ = some (.int .i64 xn) ∧ w16.cell? ⟨A, 2, none⟩ = some (.string xs) ∧ w16.cell? ⟨A, 3, none⟩ = some (.int .i32 xr) ∧ w16.cell? ⟨B, 0, none⟩ = some (.int .i64 yk) ∧ w16.cell? ⟨B, 1, none⟩ = some (.int .i64 yn) ∧ w16.cell? ⟨B, 2, none⟩ = some (.string ys) ∧ w16.cell? ⟨B, 3, none⟩ = some (.int .i32 yr) ∧ Below w.heap.size w w16 ∧ LL w16 a1 k c1 q ∧ LL w16 a2 k c2 q)
                       go_wp2_with fail
                       go_ret
                       first | exact ⟨rfl, HBf⟩ | (subst hA; exact ⟨rfl, HBf⟩)
                     exact AllReadyH.nil
                   exact AllReadyH.nil
                 exact AllReadyH.nil
               exact AllReadyH.nil
             refine AllReadyH.cons rfl (fun K hK => ?_) ?_
             · go_simp
               ((with_reducible refine (MY.out _).mono ?_); rintro e w6 ⟨rfl, hb6⟩)
               go_wp2_with fail
               refine hK.out _ _ ?_ (fun hHeld => ?_)
               · (try dsimp only); first | assumption | exact ⟨c0, c1', c2', c3, d0, d1, d2, d3, HW15.out.drew, (LL.mk LA.out).drew, (LL.mk LB.out).drew⟩ | exact (And.imp (cell_later hb5) (And.imp (cell_later hb5) (And.imp (cell_later hb5) (And.imp (cell_later hb5) (And.imp (cell_later hb5) (And.imp (cell_later hb5) (And.imp (cell_later hb5) (And.imp (cell_later hb5) (And.imp (fun hl => keepB hl hb5) (And.imp (LL.later hb5) (LL.later hb5))))))))))) (by assumption) | exact (And.imp (cell_later hb6) (And.imp (cell_later hb6) (And.imp (cell_later hb6) (And.imp (cell_later hb6) (And.imp (cell_later hb6) (And.imp (cell_later hb6) (And.imp (cell_later hb6) (And.imp (cell_later hb6) (And.imp (fun hl => keepB hl hb6) (And.imp (LL.later hb6) (LL.later hb6))))))))))) (by assumption) | exact (And.imp (cell_later hb15) (And.imp (cell_later hb15) (And.imp (cell_later hb15) (And.imp (cell_later hb15) (And.imp (cell_later hb15) (And.imp (cell_later hb15) (And.imp (cell_later hb15) (And.imp (cell_later hb15) (And.imp (fun hl => keepB hl hb15) (And.imp (LL.later hb15) (LL.later hb15))))))))))) (by assumption) | exact (And.imp (cell_later hb16) (And.imp (cell_later hb16) (And.imp (cell_later hb16) (And.imp (cell_later hb16) (And.imp (cell_later hb16) (And.imp (cell_later hb16) (And.imp (cell_later hb16) (And.imp (cell_later hb16) (And.imp (fun hl => keepB hl hb16) (And.imp (LL.later hb16) (LL.later hb16))))))))))) (by assumption) | exact (And.imp cell_alloc (And.imp cell_alloc (And.imp cell_alloc (And.imp cell_alloc (And.imp cell_alloc (And.imp cell_alloc (And.imp cell_alloc (And.imp cell_alloc (And.imp (fun hl => below_alloc hl) (And.imp LL.alloc LL.alloc)))))))))) (by assumption)
               clear hK K
               try simp only [Act.put, List.setIfInBounds_toArray, List.set_cons_zero, List.set_cons_succ, List.getElem_toArray, List.getElem_cons_zero, List.getElem_cons_succ]
               refine wpAnyH_ready (rs := [4, 10]) (by kernel_rfl) (by simp) ?_
               refine AllReadyH.cons rfl (fun K hK => ?_) ?_
               · go_simp
                 refine hK.out _ _ ?_ (fun hHeld => ?_)
                 · (try dsimp only); first | assumption | exact ⟨c0, c1', c2', c3, d0, d1, d2, d3, HW15.out.drew, (LL.mk LA.out).drew, (LL.mk LB.out).drew⟩ | exact (And.imp (cell_later hb5) (And.imp (cell_later hb5) (And.imp (cell_later hb5) (And.imp (cell_later hb5) (And.imp (cell_later hb5) (And.imp (cell_later hb5) (And.imp (cell_later hb5) (And.imp (cell_later hb5) (And.imp (fun hl => keepB hl hb5) (And.imp (LL.later hb5) (LL.later hb5))))))))))) (by assumption) | exact (And.imp (cell_later hb6) (And.imp (cell_later hb6) (And.imp (cell_later hb6) (And.imp (cell_later hb6) (And.imp (cell_later hb6) (And.imp (cell_later hb6) (And.imp (cell_later hb6) (And.imp (cell_later hb6) (And.imp (fun hl => keepB hl hb6) (And.imp (LL.later hb6) (LL.later hb6))))))))))) (by assumption) | exact (And.imp (cell_later hb15) (And.imp (cell_later hb15) (And.imp (cell_later hb15) (And.imp (cell_later hb15) (And.imp (cell_later hb15) (And.imp (cell_later hb15) (And.imp (cell_later hb15) (And.imp (cell_later hb15) (And.imp (fun hl => keepB hl hb15) (And.imp (LL.later hb15) (LL.later hb15))))))))))) (by assumption) | exact (And.imp (cell_later hb16) (And.imp (cell_later hb16) (And.imp (cell_later hb16) (And.imp (cell_later hb16) (And.imp (cell_later hb16) (And.imp (cell_later hb16) (And.imp (cell_later hb16) (And.imp (cell_later hb16) (And.imp (fun hl => keepB hl hb16) (And.imp (LL.later hb16) (LL.later hb16))))))))))) (by assumption) | exact (And.imp cell_alloc (And.imp cell_alloc (And.imp cell_alloc (And.imp cell_alloc (And.imp cell_alloc (And.imp cell_alloc (And.imp cell_alloc (And.imp cell_alloc (And.imp (fun hl => below_alloc hl) (And.imp LL.alloc LL.alloc)))))))))) (by assumption)
                 clear hK K
                 try simp only [Act.put, List.setIfInBounds_toArray, List.set_cons_zero, List.set_cons_succ, List.getElem_toArray, List.getElem_cons_zero, List.getElem_cons_succ]
                 refine wpAnyH_take (i := 5) (v := ?_) rfl (by kernel_rfl) (by kernel_rfl) (by kernel_rfl) (fun _ _ _ h => h) (Or.inl ⟨by rfl, ?_⟩) (by assumption) ?_
                 rotate_left
                 · (intro w hSw; (try dsimp only at hSw); go_simp; try with_reducible rfl)
                 try simp only [Act.put, List.setIfInBounds_toArray, List.set_cons_zero, List.set_cons_succ, List.getElem_toArray, List.getElem_cons_zero, List.getElem_cons_succ]
                 refine wpAnyH_ready (rs := [10]) (by kernel_rfl) (by simp) ?_
                 refine AllReadyH.cons rfl (fun K hK => ?_) ?_
                 · go_simp
                   refine hK.out _ _ ?_ (fun hHeld => ?_)
                   · (try dsimp only); first | assumption | exact ⟨c0, c1', c2', c3, d0, d1, d2, d3, HW15.out.drew, (LL.mk LA.out).drew, (LL.mk LB.out).drew⟩ | exact (And.imp (cell_later hb5) (And.imp (cell_later hb5) (And.imp (cell_later hb5) (And.imp (cell_later hb5) (And.imp (cell_later hb5) (And.imp (cell_later hb5) (And.imp (cell_later hb5) (And.imp (cell_later hb5) (And.imp (fun hl => keepB hl hb5) (And.imp (LL.later hb5) (LL.later hb5))))))))))) (by assumption) | exact (And.imp (cell_later hb6) (And.imp (cell_later hb6) (And.imp (cell_later hb6) (And.imp (cell_later hb6) (And.imp (cell_later hb6) (And.imp (cell_later hb6) (And.imp (cell_later hb6) (And.imp (cell_later hb6) (And.imp (fun hl => keepB hl hb6) (And.imp (LL.later hb6) (LL.later hb6))))))))))) (by assumption) | exact (And.imp (cell_later hb15) (And.imp (cell_later hb15) (And.imp (cell_later hb15) (And.imp (cell_later hb15) (And.imp (cell_later hb15) (And.imp (cell_later hb15) (And.imp (cell_later hb15) (And.imp (cell_later hb15) (And.imp (fun hl => keepB hl hb15) (And.imp (LL.later hb15) (LL.later hb15))))))))))) (by assumption) | exact (And.imp (cell_later hb16) (And.imp (cell_later hb16) (And.imp (cell_later hb16) (And.imp (cell_later hb16) (And.imp (cell_later hb16) (And.imp (cell_later hb16) (And.imp (cell_later hb16) (And.imp (cell_later hb16) (And.imp (fun hl => keepB hl hb16) (And.imp (LL.later hb16) (LL.later hb16))))))))))) (by assumption) | exact (And.imp cell_alloc (And.imp cell_alloc (And.imp cell_alloc (And.imp cell_alloc (And.imp cell_alloc (And.imp cell_alloc (And.imp cell_alloc (And.imp cell_alloc (And.imp (fun hl => below_alloc hl) (And.imp LL.alloc LL.alloc)))))))))) (by assumption)
                   clear hK K
                   try simp only [Act.put, List.setIfInBounds_toArray, List.set_cons_zero, List.set_cons_succ, List.getElem_toArray, List.getElem_cons_zero, List.getElem_cons_succ]
                   refine wpAnyH_take (i := 11) (v := ?_) rfl (by kernel_rfl) (by kernel_rfl) (by kernel_rfl) (fun _ _ _ h => h) (Or.inl ⟨by rfl, ?_⟩) (by assumption) ?_
                   rotate_left
                   · (intro w hSw; (try dsimp only at hSw); go_simp; try with_reducible rfl)
                   try simp only [Act.put, List.setIfInBounds_toArray, List.set_cons_zero, List.set_cons_succ, List.getElem_toArray, List.getElem_cons_zero, List.getElem_cons_succ]
                   refine wpAnyH_ready (rs := [12]) (by kernel_rfl) (by simp) ?_
                   refine AllReadyH.cons rfl (fun K hK => ?_) ?_
                   · go_simp
                     ((with_reducible refine (EPP.out _ _ _ ((Blk.new w6 20 #[.iface 33 (.slice a1 k c1), .iface ux zx]).alloc _) (Blk.new2 w6 _ 20 #[.iface 33 (.slice a2 k c2), .iface uy zy]) (by go_split_ands; with_reducible assumption) (by go_split_ands; with_reducible assumption)).mono ?_); rintro e w15 ⟨rfl, hb15⟩)
                     go_wp2_with fail
                     refine hK.out _ _ ?_ (fun hHeld => ?_)
                     · (try dsimp only); first | assumption | exact ⟨c0, c1', c2', c3, d0, d1, d2, d3, HW15.out.drew, (LL.mk LA.out).drew, (LL.mk LB.out).drew⟩ | exact (And.imp (cell_later hb5) (And.imp (cell_later hb5) (And.imp (cell_later hb5) (And.imp (cell_later hb5) (And.imp (cell_later hb5) (And.imp (cell_later hb5) (And.imp (cell_later hb5) (And.imp (cell_later hb5) (And.imp (fun hl => keepB hl hb5) (And.imp (LL.later hb5) (LL.later hb5))))))))))) (by assumption) | exact (And.imp (cell_later hb6) (And.imp (cell_later hb6) (And.imp (cell_later hb6) (And.imp (cell_later hb6) (And.imp (cell_later hb6) (And.imp (cell_later hb6) (And.imp (cell_later hb6) (And.imp (cell_later hb6) (And.imp (fun hl => keepB hl hb6) (And.imp (LL.later hb6) (LL.later hb6))))))))))) (by assumption) | exact (And.imp (cell_later hb15) (And.imp (cell_later hb15) (And.imp (cell_later hb15) (And.imp (cell_later hb15) (And.imp (cell_later hb15) (And.imp (cell_later hb15) (And.imp (cell_later hb15) (And.imp (cell_later hb15) (And.imp (fun hl => keepB hl hb15) (And.imp (LL.later hb15) (LL.later hb15))))))))))) (by assumption) | exact (And.imp (cell_later hb16) (And.imp (cell_later hb16) (And.imp (cell_later hb16) (And.imp (cell_later hb16) (And.imp (cell_later hb16) (And.imp (cell_later hb16) (And.imp (cell_later hb16) (And.imp (cell_later hb16) (And.imp (fun hl => keepB hl hb16) (And.imp (LL.later hb16) (LL.later hb16))))))))))) (by assumption) | exact (And.imp cell_alloc (And.imp cell_alloc (And.imp cell_alloc (And.imp cell_alloc (And.imp cell_alloc (And.imp cell_alloc (And.imp cell_alloc (And.imp cell_alloc (And.imp (fun hl => below_alloc hl) (And.imp LL.alloc LL.alloc)))))))))) (by assumption)
                     clear hK K
                     try simp only [Act.put, List.setIfInBounds_toArray, List.set_cons_zero, List.set_cons_succ, List.getElem_toArray, List.getElem_cons_zero, List.getElem_cons_succ]
                     refine wpAnyH_take (i := 14) (v := ?_) rfl (by kernel_rfl) (by kernel_rfl) (by kernel_rfl) (fun _ _ _ h => h) (Or.inl ⟨by rfl, ?_⟩) (by assumption) ?_
                     rotate_left
                     · (intro w hSw; (try dsimp only at hSw); go_simp; try with_reducible rfl)
                     try simp only [Act.put, List.setIfInBounds_toArray, List.set_cons_zero, List.set_cons_succ, List.getElem_toArray, List.getElem_cons_zero, List.getElem_cons_succ]
                     refine wpAnyH_take (i := 15) rfl (by kernel_rfl) (by kernel_rfl) (by kernel_rfl) (fun _ _ _ h => h) (Or.inr ⟨by rfl, rfl⟩) (by assumption) ?_
                     try simp only [Act.put, List.setIfInBounds_toArray, List.set_cons_zero, List.set_cons_succ, List.getElem_toArray, List.getElem_cons_zero, List.getElem_cons_succ]
                     refine wpAnyH_take (i := 16) rfl (by kernel_rfl) (by kernel_rfl) (by kernel_rfl) (fun _ _ _ h => h) (Or.inr ⟨by rfl, rfl⟩) (by assumption) ?_
                     try simp only [Act.put, List.setIfInBounds_toArray, List.set_cons_zero, List.set_cons_succ, List.getElem_toArray, List.getElem_cons_zero, List.getElem_cons_succ]
                     refine wpAnyH_take (i := 17) rfl (by kernel_rfl) (by kernel_rfl) (by kernel_rfl) (fun _ _ _ h => h) (Or.inr ⟨by rfl, rfl⟩) (by assumption) ?_
                     try simp only [Act.put, List.setIfInBounds_toArray, List.set_cons_zero, List.set_cons_succ, List.getElem_toArray, List.getElem_cons_zero, List.getElem_cons_succ]
                     refine wpAnyH_take (i := 18) (v := ?_) rfl (by kernel_rfl) (by kernel_rfl) (by kernel_rfl) (fun _ _ _ h => h) (Or.inl ⟨by rfl, ?_⟩) (by assumption) ?_
                     rotate_left
                     · (intro w hSw; (try dsimp only at hSw); go_simp; try with_reducible rfl)
                     try simp only [Act.put, List.setIfInBounds_toArray, List.set_cons_zero, List.set_cons_succ, List.getElem_toArray, List.getElem_cons_zero, List.getElem_cons_succ]
                     refine wpAnyH_take (i := 19) (v := ?_) rfl (by kernel_rfl) (by kernel_rfl) (by kernel_rfl) (fun _ _ _ h => h) (Or.inl ⟨by rfl, ?_⟩) (by assumption) ?_
                     rotate_left
                     · (intro w hSw; (try dsimp only at hSw); go_simp; try with_reducible rfl)
                     try simp only [Act.put, List.setIfInBounds_toArray, List.set_cons_zero, List.set_cons_succ, List.getElem_toArray, List.getElem_cons_zero, List.getElem_cons_succ]
                     refine wpAnyH_take (i := 20) (v := ?_) rfl (by kernel_rfl) (by kernel_rfl) (by kernel_rfl) (fun _ _ _ h => h) (Or.inl ⟨by rfl, ?_⟩) (by assumption) ?_
                     rotate_left
                     · (intro w hSw; (try dsimp only at hSw); go_simp; try with_reducible rfl)
                     try simp only [Act.put, List.setIfInBounds_toArray, List.set_cons_zero, List.set_cons_succ, List.getElem_toArray, List.getElem_cons_zero, List.getElem_cons_succ]
                     refine wpAnyH_ready (rs := [21]) (by kernel_rfl) (by simp) ?_
                     refine AllReadyH.cons rfl (fun K hK => ?_) ?_
                     · go_simp
                       ((with_reducible refine (awake_any _).mono ?_); rintro e w16 ⟨rfl, hb16⟩)
                       go_wp2_with fail
                       refine hK.out _ _ ?_ (fun hHeld => ?_)
                       · (try dsimp only); first | assumption | exact ⟨c0, c1', c2', c3, d0, d1, d2, d3, HW15.out.drew, (LL.mk LA.out).drew, (LL.mk LB.out).drew⟩ | exact (And.imp (cell_later hb5) (And.imp (cell_later hb5) (And.imp (cell_later hb5) (And.imp (cell_later hb5) (And.imp (cell_later hb5) (And.imp (cell_later hb5) (And.imp (cell_later hb5) (And.imp (cell_later hb5) (And.imp (fun hl => keepB hl hb5) (And.imp (LL.later hb5) (LL.later hb5))))))))))) (by assumption) | exact (And.imp (cell_later hb6) (And.imp (cell_later hb6) (And.imp (cell_later hb6) (And.imp (cell_later hb6) (And.imp (cell_later hb6) (And.imp (cell_later hb6) (And.imp (cell_later hb6) (And.imp (cell_later hb6) (And.imp (fun hl => keepB hl hb6) (And.imp (LL.later hb6) (LL.later hb6))))))))))) (by assumption) | exact (And.imp (cell_later hb15) (And.imp (cell_later hb15) (And.imp (cell_later hb15) (And.imp (cell_later hb15) (And.imp (cell_later hb15) (And.imp (cell_later hb15) (And.imp (cell_later hb15) (And.imp (cell_later hb15) (And.imp (fun hl => keepB hl hb15) (And.imp (LL.later hb15) (LL.later hb15))))))))))) (by assumption) | exact (And.imp (cell_later hb16) (And.imp (cell_later hb16) (And.imp (cell_later hb16) (And.imp (cell_later hb16) (And.imp (cell_later hb16) (And.imp (cell_later hb16) (And.imp (cell_later hb16) (And.imp (cell_later hb16) (And.imp (fun hl => keepB hl hb16) (And.imp (LL.later hb16) (LL.later hb16))))))))))) (by assumption) | exact (And.imp cell_alloc (And.imp cell_alloc (And.imp cell_alloc (And.imp cell_alloc (And.imp cell_alloc (And.imp cell_alloc (And.imp cell_alloc (And.imp cell_alloc (And.imp (fun hl => below_alloc hl) (And.imp LL.alloc LL.alloc)))))))))) (by assumption)
                       clear hK K
                       try simp only [Act.put, List.setIfInBounds_toArray, List.set_cons_zero, List.set_cons_succ, List.getElem_toArray, List.getElem_cons_zero, List.getElem_cons_succ]
                       refine wpAnyH_take (i := 22) (v := ?_) rfl (by kernel_rfl) (by kernel_rfl) (by kernel_rfl) (fun _ _ _ h => h) (Or.inl ⟨by rfl, ?_⟩) (by assumption) ?_
                       rotate_left
                       · (intro w hSw; (try dsimp only at hSw); go_simp; try with_reducible rfl)
                       try simp only [Act.put, List.setIfInBounds_toArray, List.set_cons_zero, List.set_cons_succ, List.getElem_toArray, List.getElem_cons_zero, List.getElem_cons_succ]
                       refine wpAnyH_take (i := 23) (v := ?_) rfl (by kernel_rfl) (by kernel_rfl) (by kernel_rfl) (fun _ _ _ h => h) (Or.inl ⟨by rfl, ?_⟩) (by assumption) ?_
                       rotate_left
                       · (intro w hSw; (try dsimp only at hSw); go_simp; try with_reducible rfl)
                       try simp only [Act.put, List.setIfInBounds_toArray, List.set_cons_zero, List.set_cons_succ, List.getElem_toArray, List.getElem_cons_zero, List.getElem_cons_succ]
                       refine wpAnyH_done (by kernel_rfl) ?_ _
                       refine NoPanic.normal ?_
                       obtain ⟨_, _, _, _, _, _, _, _, HBf, _, _⟩ := (by assumption : w16.cell? ⟨A, 0, none⟩ = some (.int .i64 xk) ∧ w16.cell? ⟨A, 1, none⟩ = some (.int .i64 xn) ∧ w16.cell? ⟨A, 2, none⟩ = some (.string xs) ∧ w16.cell? ⟨A, 3, none⟩ = some (.int .i32 xr) ∧ w16.cell? ⟨B, 0, none⟩ = some (.int .i64 yk) ∧ w16.cell? ⟨B, 1, none⟩ = some (.int .i64 yn) ∧ w16.cell? ⟨B, 2, none⟩ = some (.string ys) ∧ w16.cell? ⟨B, 3, none⟩ = some (.int .i32 yr) ∧ Below w.heap.size w w16 ∧ LL w16 a1 k c1 q ∧ LL w16 a2 k c2 q)
                       go_wp2_with fail
                       go_ret
                       first | exact ⟨rfl, HBf⟩ | (subst hA; exact ⟨rfl, HBf⟩)
                     exact AllReadyH.nil
                   exact AllReadyH.nil
                 exact AllReadyH.nil
               refine AllReadyH.cons rfl (fun K hK => ?_) ?_
               · go_simp
                 refine hK.out _ _ ?_ (fun hHeld => ?_)
                 · (try dsimp only); first | assumption | exact ⟨c0, c1', c2', c3, d0, d1, d2, d3, HW15.out.drew, (LL.mk LA.out).drew, (LL.mk LB.out).drew⟩ | exact (And.imp (cell_later hb5) (And.imp (cell_later hb5) (And.imp (cell_later hb5) (And.imp (cell_later hb5) (And.imp (cell_later hb5) (And.imp (cell_later hb5) (And.imp (cell_later hb5) (And.imp (cell_later hb5) (And.imp (fun hl => keepB hl hb5) (And.imp (LL.later hb5) (LL.later hb5))))))))))) (by assumption) | exact (And.imp (cell_later hb6) (And.imp (cell_later hb6) (And.imp (cell_later hb6) (And.imp (cell_later hb6) (And.imp (cell_later hb6) (And.imp (cell_later hb6) (And.imp (cell_later hb6) (And.imp (cell_later hb6) (And.imp (fun hl => keepB hl hb6) (And.imp (LL.later hb6) (LL.later hb6))))))))))) (by assumption) | exact (And.imp (cell_later hb15) (And.imp (cell_later hb15) (And.imp (cell_later hb15) (And.imp (cell_later hb15) (And.imp (cell_later hb15) (And.imp (cell_later hb15) (And.imp (cell_later hb15) (And.imp (cell_later hb15) (And.imp (fun hl => keepB hl hb15) (And.imp (LL.later hb15) (LL.later hb15))))))))))) (by assumption) | exact (And.imp (cell_later hb16) (And.imp (cell_later hb16) (And.imp (cell_later hb16) (And.imp (cell_later hb16) (And.imp (cell_later hb16) (And.imp (cell_later hb16) (And.imp (cell_later hb16) (And.imp (cell_later hb16) (And.imp (fun hl => keepB hl hb16) (And.imp (LL.later hb16) (LL.later hb16))))))))))) (by assumption) | exact (And.imp cell_alloc (And.imp cell_alloc (And.imp cell_alloc (And.imp cell_alloc (And.imp cell_alloc (And.imp cell_alloc (And.imp cell_alloc (And.imp cell_alloc (And.imp (fun hl => below_alloc hl) (And.imp LL.alloc LL.alloc)))))))))) (by assumption)
                 clear hK K
                 try simp only [Act.put, List.setIfInBounds_toArray, List.set_cons_zero, List.set_cons_succ, List.getElem_toArray, List.getElem_cons_zero, List.getElem_cons_succ]
                 refine wpAnyH_take (i := 11) (v := ?_) rfl (by kernel_rfl) (by kernel_rfl) (by kernel_rfl) (fun _ _ _ h => h) (Or.inl ⟨by rfl, ?_⟩) (by assumption) ?_
                 rotate_left
                 · (intro w hSw; (try dsimp only at hSw); go_simp; try with_reducible rfl)
                 try simp only [Act.put, List.setIfInBounds_toArray, List.set_cons_zero, List.set_cons_succ, List.getElem_toArray, List.getElem_cons_zero, List.getElem_cons_succ]
                 refine wpAnyH_ready (rs := [4]) (by kernel_rfl) (by simp) ?_
                 refine AllReadyH.cons rfl (fun K hK => ?_) ?_
                 · go_simp
                   refine hK.out _ _ ?_ (fun hHeld => ?_)
                   · (try dsimp only); first | assumption | exact ⟨c0, c1', c2', c3, d0, d1, d2, d3, HW15.out.drew, (LL.mk LA.out).drew, (LL.mk LB.out).drew⟩ | exact (And.imp (cell_later hb5) (And.imp (cell_later hb5) (And.imp (cell_later hb5) (And.imp (cell_later hb5) (And.imp (cell_later hb5) (And.imp (cell_later hb5) (And.imp (cell_later hb5) (And.imp (cell_later hb5) (And.imp (fun hl => keepB hl hb5) (And.imp (LL.later hb5) (LL.later hb5))))))))))) (by assumption) | exact (And.imp (cell_later hb6) (And.imp (cell_later hb6) (And.imp (cell_later hb6) (And.imp (cell_later hb6) (And.imp (cell_later hb6) (And.imp (cell_later hb6) (And.imp (cell_later hb6) (And.imp (cell_later hb6) (And.imp (fun hl => keepB hl hb6) (And.imp (LL.later hb6) (LL.later hb6))))))))))) (by assumption) | exact (And.imp (cell_later hb15) (And.imp (cell_later hb15) (And.imp (cell_later hb15) (And.imp (cell_later hb15) (And.imp (cell_later hb15) (And.imp (cell_later hb15) (And.imp (cell_later hb15) (And.imp (cell_later hb15) (And.imp (fun hl => keepB hl hb15) (And.imp (LL.later hb15) (LL.later hb15))))))))))) (by assumption) | exact (And.imp (cell_later hb16) (And.imp (cell_later hb16) (And.imp (cell_later hb16) (And.imp (cell_later hb16) (And.imp (cell_later hb16) (And.imp (cell_later hb16) (And.imp (cell_later hb16) (And.imp (cell_later hb16) (And.imp (fun hl => keepB hl hb16) (And.imp (LL.later hb16) (LL.later hb16))))))))))) (by assumption) | exact (And.imp cell_alloc (And.imp cell_alloc (And.imp cell_alloc (And.imp cell_alloc (And.imp cell_alloc (And.imp cell_alloc (And.imp cell_alloc (And.imp cell_alloc (And.imp (fun hl => below_alloc hl) (And.imp LL.alloc LL.alloc)))))))))) (by assumption)
                   clear hK K
                   try simp only [Act.put, List.setIfInBounds_toArray, List.set_cons_zero, List.set_cons_succ, List.getElem_toArray, List.getElem_cons_zero, List.getElem_cons_succ]
                   refine wpAnyH_take (i := 5) (v := ?_) rfl (by kernel_rfl) (by kernel_rfl) (by kernel_rfl) (fun _ _ _ h => h) (Or.inl ⟨by rfl, ?_⟩) (by assumption) ?_
                   rotate_left
                   · (intro w hSw; (try dsimp only at hSw); go_simp; try with_reducible rfl)
                   try simp only [Act.put, List.setIfInBounds_toArray, List.set_cons_zero, List.set_cons_succ, List.getElem_toArray, List.getElem_cons_zero, List.getElem_cons_succ]
                   refine wpAnyH_ready (rs := [12]) (by kernel_rfl) (by simp) ?_
                   refine AllReadyH.cons rfl (fun K hK => ?_) ?_
                   · go_simp
                     ((with_reducible refine (EPP.out _ _ _ (Blk.new2 w6 _ 20 #[.iface 33 (.slice a1 k c1), .iface ux zx]) ((Blk.new w6 20 #[.iface 33 (.slice a2 k c2), .iface uy zy]).alloc _) (by go_split_ands; with_reducible assumption) (by go_split_ands; with_reducible assumption)).mono ?_); rintro e w15 ⟨rfl, hb15⟩)
                     go_wp2_with fail
                     refine hK.out _ _ ?_ (fun hHeld => ?_)
                     · (try dsimp only); first | assumption | exact ⟨c0, c1', c2', c3, d0, d1, d2, d3, HW15.out.drew, (LL.mk LA.out).drew, (LL.mk LB.out).drew⟩ | exact (And.imp (cell_later hb5) (And.imp (cell_later hb5) (And.imp (cell_later hb5) (And.imp (cell_later hb5) (And.imp (cell_later hb5) (And.imp (cell_later hb5) (And.imp (cell_later hb5) (And.imp (cell_later hb5) (And.imp (fun hl => keepB hl hb5) (And.imp (LL.later hb5) (LL.later hb5))))))))))) (by assumption) | exact (And.imp (cell_later hb6) (And.imp (cell_later hb6) (And.imp (cell_later hb6) (And.imp (cell_later hb6) (And.imp (cell_later hb6) (And.imp (cell_later hb6) (And.imp (cell_later hb6) (And.imp (cell_later hb6) (And.imp (fun hl => keepB hl hb6) (And.imp (LL.later hb6) (LL.later hb6))))))))))) (by assumption) | exact (And.imp (cell_later hb15) (And.imp (cell_later hb15) (And.imp (cell_later hb15) (And.imp (cell_later hb15) (And.imp (cell_later hb15) (And.imp (cell_later hb15) (And.imp (cell_later hb15) (And.imp (cell_later hb15) (And.imp (fun hl => keepB hl hb15) (And.imp (LL.later hb15) (LL.later hb15))))))))))) (by assumption) | exact (And.imp (cell_later hb16) (And.imp (cell_later hb16) (And.imp (cell_later hb16) (And.imp (cell_later hb16) (And.imp (cell_later hb16) (And.imp (cell_later hb16) (And.imp (cell_later hb16) (And.imp (cell_later hb16) (And.imp (fun hl => keepB hl hb16) (And.imp (LL.later hb16) (LL.later hb16))))))))))) (by assumption) | exact (And.imp cell_alloc (And.imp cell_alloc (And.imp cell_alloc (And.imp cell_alloc (And.imp cell_alloc (And.imp cell_alloc (And.imp cell_alloc (And.imp cell_alloc (And.imp (fun hl => below_alloc hl) (And.imp LL.alloc LL.alloc)))))))))) (by assumption)
                     clear hK K
                     try simp only [Act.put, List.setIfInBounds_toArray, List.set_cons_zero, List.set_cons_succ, List.getElem_toArray, List.getElem_cons_zero, List.getElem_cons_succ]
                     refine wpAnyH_take (i := 14) (v := ?_) rfl (by kernel_rfl) (by kernel_rfl) (by kernel_rfl) (fun _ _ _ h => h) (Or.inl ⟨by rfl, ?_⟩) (by assumption) ?_
                     rotate_left
                     · (intro w hSw; (try dsimp only at hSw); go_simp; try with_reducible rfl)
                     try simp only [Act.put, List.setIfInBounds_toArray, List.set_cons_zero, List.set_cons_succ, List.getElem_toArray, List.getElem_cons_zero, List.getElem_cons_succ]
                     refine wpAnyH_take (i := 15) rfl (by kernel_rfl) (by kernel_rfl) (by kernel_rfl) (fun _ _ _ h => h) (Or.inr ⟨by rfl, rfl⟩) (by assumption) ?_
                     try simp only [Act.put, List.setIfInBounds_toArray, List.set_cons_zero, List.set_cons_succ, List.getElem_toArray, List.getElem_cons_zero, List.getElem_cons_succ]
                     refine wpAnyH_take (i := 16) rfl (by kernel_rfl) (by kernel_rfl) (by kernel_rfl) (fun _ _ _ h => h) (Or.inr ⟨by rfl, rfl⟩) (by assumption) ?_
                     try simp only [Act.put, List.setIfInBounds_toArray, List.set_cons_zero, List.set_cons_succ, List.getElem_toArray, List.getElem_cons_zero, List.getElem_cons_succ]
                     refine wpAnyH_take (i := 17) rfl (by kernel_rfl) (by kernel_rfl) (by kernel_rfl) (fun _ _ _ h => h) (Or.inr ⟨by rfl, rfl⟩) (by assumption) ?_
                     try simp only [Act.put, List.setIfInBounds_toArray, List.set_cons_zero, List.set_cons_succ, List.getElem_toArray, List.getElem_cons_zero, List.getElem_cons_succ]
                     refine wpAnyH_take (i := 18) (v := ?_) rfl (by kernel_rfl) (by kernel_rfl) (by kernel_rfl) (fun _ _ _ h => h) (Or.inl ⟨by rfl, ?_⟩) (by assumption) ?_
                     rotate_left
                     · (intro w hSw; (try dsimp only at hSw); go_simp; try with_reducible rfl)
                     try simp only [Act.put, List.setIfInBounds_toArray, List.set_cons_zero, List.set_cons_succ, List.getElem_toArray, List.getElem_cons_zero, List.getElem_cons_succ]
                     refine wpAnyH_take (i := 19) (v := ?_) rfl (by kernel_rfl) (by kernel_rfl) (by kernel_rfl) (fun _ _ _ h => h) (Or.inl ⟨by rfl, ?_⟩) (by assumption) ?_
                     rotate_left
                     · (intro w hSw; (try dsimp only at hSw); go_simp; try with_reducible rfl)
                     try simp only [Act.put, List.setIfInBounds_toArray, List.set_cons_zero, List.set_cons_succ, List.getElem_toArray, List.getElem_cons_zero, List.getElem_cons_succ]
                     refine wpAnyH_take (i := 20) (v := ?_) rfl (by kernel_rfl) (by kernel_rfl) (by kernel_rfl) (fun _ _ _ h => h) (Or.inl ⟨by rfl, ?_⟩) (by assumption) ?_
                     rotate_left
                     · (intro w hSw; (try dsimp only at hSw); go_simp; try with_reducible rfl)
                     try simp only [Act.put, List.setIfInBounds_toArray, List.set_cons_zero, List.set_cons_succ, List.getElem_toArray, List.getElem_cons_zero, List.getElem_cons_succ]
                     refine wpAnyH_ready (rs := [21]) (by kernel_rfl) (by simp) ?_
                     refine AllReadyH.cons rfl (fun K hK => ?_) ?_
                     · go_simp
                       ((with_reducible refine (awake_any _).mono ?_); rintro e w16 ⟨rfl, hb16⟩)
                       go_wp2_with fail
                       refine hK.out _ _ ?_ (fun hHeld => ?_)
                       · (try dsimp only); first | assumption | exact ⟨c0, c1', c2', c3, d0, d1, d2, d3, HW15.out.drew, (LL.mk LA.out).drew, (LL.mk LB.out).drew⟩ | exact (And.imp (cell_later hb5) (And.imp (cell_later hb5) (And.imp (cell_later hb5) (And.imp (cell_later hb5) (And.imp (cell_later hb5) (And.imp (cell_later hb5) (And.imp (cell_later hb5) (And.imp (cell_later hb5) (And.imp (fun hl => keepB hl hb5) (And.imp (LL.later hb5) (LL.later hb5))))))))))) (by assumption) | exact (And.imp (cell_later hb6) (And.imp (cell_later hb6) (And.imp (cell_later hb6) (And.imp (cell_later hb6) (And.imp (cell_later hb6) (And.imp (cell_later hb6) (And.imp (cell_later hb6) (And.imp (cell_later hb6) (And.imp (fun hl => keepB hl hb6) (And.imp (LL.later hb6) (LL.later hb6))))))))))) (by assumption) | exact (And.imp (cell_later hb15) (And.imp (cell_later hb15) (And.imp (cell_later hb15) (And.imp (cell_later hb15) (And.imp (cell_later hb15) (And.imp (cell_later hb15) (And.imp (cell_later hb15) (And.imp (cell_later hb15) (And.imp (fun hl => keepB hl hb15) (And.imp (LL.later hb15) (LL.later hb15))))))))))) (by assumption) | exact (And.imp (cell_later hb16) (And.imp (cell_later hb16) (And.imp (cell_later hb16) (And.imp (cell_later hb16) (And.imp (cell_later hb16) (And.imp (cell_later hb16) (And.imp (cell_later hb16) (And.imp (cell_later hb16) (And.imp (fun hl => keepB hl hb16) (And.imp (LL.later hb16) (LL.later hb16))))))))))) (by assumption) | exact (And.imp cell_alloc (And.imp cell_alloc (And.imp cell_alloc (And.imp cell_alloc (And.imp cell_alloc (And.imp cell_alloc (And.imp cell_alloc (And.imp cell_alloc (And.imp (fun hl => below_alloc hl) (And.imp LL.alloc LL.alloc)))))))))) (by assumption)
                       clear hK K
                       try simp only [Act.put, List.setIfInBounds_toArray, List.set_cons_zero, List.set_cons_succ, List.getElem_toArray, List.getElem_cons_zero, List.getElem_cons_succ]
                       refine wpAnyH_take (i := 22) (v := ?_) rfl (by kernel_rfl) (by kernel_rfl) (by kernel_rfl) (fun _ _ _ h => h) (Or.inl ⟨by rfl, ?_⟩) (by assumption) ?_
                       rotate_left
                       · (intro w hSw; (try dsimp only at hSw); go_simp; try with_reducible rfl)
                       try simp only [Act.put, List.setIfInBounds_toArray, List.set_cons_zero, List.set_cons_succ, List.getElem_toArray, List.getElem_cons_zero, List.getElem_cons_succ]
                       refine wpAnyH_take (i := 23) (v := ?_) rfl (by kernel_rfl) (by kernel_rfl) (by kernel_rfl) (fun _ _ _ h => h) (Or.inl ⟨by rfl, ?_⟩) (by assumption) ?_
                       rotate_left
                       · (intro w hSw; (try dsimp only at hSw); go_simp; try with_reducible rfl)
                       try simp only [Act.put, List.setIfInBounds_toArray, List.set_cons_zero, List.set_cons_succ, List.getElem_toArray, List.getElem_cons_zero, List.getElem_cons_succ]
                       refine wpAnyH_done (by kernel_rfl) ?_ _
                       refine NoPanic.normal ?_
                       obtain ⟨_, _, _, _, _, _, _, _, HBf, _, _⟩ := (by assumption : w16.cell? ⟨A, 0, none⟩ = some (.int .i64 xk) ∧ w16.cell? ⟨A, 1, none⟩ = some (.int .i64 xn) ∧ w16.cell? ⟨A, 2, none⟩ = some (.string xs) ∧ w16.cell? ⟨A, 3, none⟩ = some (.int .i32 xr) ∧ w16.cell? ⟨B, 0, none⟩ = some (.int .i64 yk) ∧ w16.cell? ⟨B, 1, none⟩ = some (.int .i64 yn) ∧ w16.cell? ⟨B, 2, none⟩ = some (.string ys) ∧ w16.cell? ⟨B, 3, none⟩ = some (.int .i32 yr) ∧ Below w.heap.size w w16 ∧ LL w16 a1 k c1 q ∧ LL w16 a2 k c2 q)
                       go_wp2_with fail
                       go_ret
                       first | exact ⟨rfl, HBf⟩ | (subst hA; exact ⟨rfl, HBf⟩)
                     exact AllReadyH.nil
                   exact AllReadyH.nil
                 exact AllReadyH.nil
               exact AllReadyH.nil
             exact AllReadyH.nil
           exact AllReadyH.nil
)
end Go.Proofs.YtonnbckjlfadcaaDoor
