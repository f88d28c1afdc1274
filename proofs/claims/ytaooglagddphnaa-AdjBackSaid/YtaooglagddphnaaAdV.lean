/- The law's is: all lists, and marks, are the document's. Printed by wip/tools/adv.py. -/
import Derived.Test.YtaooglagddphnaaAdR
namespace Go.Proofs.Ytaooglagddphnaa
open Go.RowKit

set_option maxRecDepth 100000

theorem LI.cell0 {w : World} {a : Option Addr} {k c s : Nat} {D : List Nat} (h : LI w (.slice a k c) (s :: D)) : ∃ b o, a = some ⟨b, o, none⟩ ∧ w.cell? ⟨b, o, none⟩ = some (.int .i64 (s : Int)) := by
  obtain ⟨b, o, cap, e, _, _, _, hk⟩ := h.open_ (by simp)
  injection e with e1 e2 e3
  exact ⟨b, o, e1, hk 0 s rfl⟩
/-- A play beside a list. -/
structure IZ12 (w0 W : World) (base q eb lb : Nat) (V S T : Int) (p gb cap m n : Nat) (f : Nat → Int) (mk : Nat → Nat) (ts : List Tp) (bs : List E1) (qq : Nat → Nat → List Nat) (vs : Value) (D : List Nat) : Prop where
  pm : PM12 w0 W base q eb lb V S T p gb cap m n f mk ts bs qq
  li : LI W vs D
def SZ12 (W : World) (q eb lb p : Nat) (V S T : Int) (cb co s : Nat) : Prop := PB12 W q eb lb V S T p ∧ W.cell? ⟨cb, co, none⟩ = some (.int .i64 (s : Int))
section
variable {w w' w0 : World} {base q eb lb p gb cap m m' n n' cb co c : Nat} {V S T : Int} {f : Nat → Int} {mk : Nat → Nat} {ts : List Tp} {bs : List E1} {qq : Nat → Nat → List Nat} {vs : Value} {D : List Nat} {s : Nat}
theorem IZ12.below (h : IZ12 w0 w base q eb lb V S T p gb cap m n f mk ts bs qq vs D) (hb : Below w.heap.size w w') : IZ12 w0 w' base q eb lb V S T p gb cap m n f mk ts bs qq vs D := ⟨h.pm.below hb, h.li.below hb⟩
theorem IZ12.drew (h : IZ12 w0 w base q eb lb V S T p gb cap m n f mk ts bs qq vs D) : IZ12 w0 w.drew base q eb lb V S T p gb cap m n f mk ts bs qq vs D := h.below (Below.refl _ _).drew
theorem IZ12.next (h : IZ12 w0 w base q eb lb V S T p gb cap m n f mk ts bs qq vs D) (hm : TA w' V S T p gb cap m' f mk ts) (ho : Only p gb w w') : IZ12 w0 w' base q eb lb V S T p gb cap m' n f mk ts bs qq vs D := ⟨h.pm.next hm ho, h.li.ta h.pm.ps.ta ho⟩
theorem IZ12.more (h : IZ12 w0 w base q eb lb V S T p gb cap m n f mk ts bs qq vs D) (hm : m ≤ m') : IZ12 w0 w base q eb lb V S T p gb cap m' n f mk ts bs qq vs D := ⟨h.pm.more hm (Nat.le_refl _), h.li⟩
theorem IZ12.sz (h : IZ12 w0 w base q eb lb V S T p gb cap m n f mk ts bs qq (.slice (some ⟨cb, co, none⟩) c n') (s :: D)) : SZ12 w q eb lb p V S T cb co s := by
  obtain ⟨b, o, e, hk⟩ := h.li.cell0
  cases e
  exact ⟨h.pm.ps.pb, hk⟩
theorem SZ12.rule (q eb lb p : Nat) (V S T : Int) (cb co s : Nat) : ∀ W : World, SZ12 W q eb lb p V S T cb co s → (W.cell? ⟨q, 0, none⟩ = some (.int .i64 V) ∧ W.cell? ⟨q, 1, none⟩ = some (.int .i64 S) ∧ W.cell? ⟨q, 2, none⟩ = some (.int .i64 T) ∧ W.cell? ⟨q, 3, none⟩ = some (.int .i64 V) ∧ W.cell? ⟨q, 4, none⟩ = some (.int .i64 S) ∧ W.cell? ⟨q, 5, none⟩ = some (.int .i64 T) ∧ W.cell? ⟨q, 6, none⟩ = some (.iface 84 (pmV p)) ∧ W.cell? ⟨q, 7, none⟩ = some (.int .i64 1) ∧ W.cell? ⟨q, 8, none⟩ = some (.int .i64 0) ∧ W.cell? ⟨q, 9, none⟩ = some (.int .i64 V) ∧ W.cell? ⟨q, 10, none⟩ = some (.int .i64 S) ∧ W.cell? ⟨q, 11, none⟩ = some (.int .i64 T) ∧ W.cell? ⟨q, 12, none⟩ = some (.iface 84 (pmV p)) ∧ W.cell? ⟨q, 13, none⟩ = some (.map (some eb)) ∧ W.cell? ⟨q, 14, none⟩ = some (.map (some lb))) ∧ W.cell? ⟨cb, co, none⟩ = some (.int .i64 (s : Int)) := fun _ h => ⟨h.1.cells, h.2⟩
/-- In is's loops: by vertices; by levels. -/
def IsA12 (w0 : World) (base q eb lb : Nat) (V S T : Int) (p gb cap m n nv : Nat) (f : Nat → Int) (mk : Nat → Nat) (ts : List Tp) (bs : List E1) (qq : Nat → Nat → List Nat) (i : Value) (W : World) : Prop :=
  ∃ k, k ≤ nv ∧ i = .int .i64 ((k : Nat) : Int) ∧ PM12 w0 W base q eb lb V S T p gb cap (m + 260 * k) n f mk ts bs qq
def IsB12 (w0 : World) (base q eb lb : Nat) (V S T : Int) (p gb cap m n nl : Nat) (f : Nat → Int) (mk : Nat → Nat) (ts : List Tp) (bs : List E1) (qq : Nat → Nat → List Nat) (i : Value) (W : World) : Prop :=
  ∃ k, k ≤ nl ∧ i = .int .i64 ((k : Nat) : Int) ∧ PM12 w0 W base q eb lb V S T p gb cap (m + 52 * k) n f mk ts bs qq
theorem cell_lt12 {W : World} {b o : Nat} {v : Value} (h : W.cell? ⟨b, o, none⟩ = some v) : b < W.heap.size := by
  rcases Nat.lt_or_ge b W.heap.size with h1 | h1
  · exact h1
  · exfalso
    unfold World.cell? at h
    rw [Array.getElem?_eq_none h1] at h
    cases h
set_option maxHeartbeats 8000000 in
theorem is_any12 (h : PM12 w0 w base q eb lb V S T p gb cap m n f mk ts bs qq) (hlen : ∀ v l, (((qq v l).length : Nat) : Int) ≤ S) (v8 : V ≤ 8) (hm : m ≤ 99870000) :
    Calls Try.prog 14 #[.pointer (some ⟨q, 0, none⟩)] w fun e w' => e = .returned (.bool true) ∧ PM12 w0 w' base q eb lb V S T p gb cap (m + 2080) n f mk ts bs qq := by
  obtain ⟨nv, rfl⟩ : ∃ k : Nat, V = (k : Int) := ⟨V.toNat, by have := h.ps.ta.hR.v1; omega⟩
  obtain ⟨nl, hnl⟩ : ∃ k : Nat, lv (nv : Int) = (k : Int) := ⟨(lv (nv : Int)).toNat, by have := lv_bd (nv : Int); omega⟩
  have hl5 : nl ≤ 5 := by have := lv_bd (nv : Int); omega
  have HNL := Lib.hid hnl
  have HR := Lib.hid h.ps.ta.hR
  have nv8 : nv ≤ 8 := by omega
  have s48 := HR.out.s2
  have HLN := Lib.hid hlen
  have HRel : Hid (IsA12 w0 base q eb lb (nv : Int) S T p gb cap m n nv f mk ts bs qq (.int .i64 0) w) := Lib.hid ⟨0, Nat.zero_le _, rfl, h⟩
  obtain ⟨y0, y1, y2, y3, y4, y5, y6, y7, y8, y9, y10, y11, y12, y13, y14⟩ := h.ps.pb.cells
  have qlt := h.ps.pb.lt
  clear h hlen hnl
  go_enter Try.func14, Try.ntmps14
  go_wp2_with fail
  clear y0 y1 y2 y3 y4 y5 y6 y7 y8 y9 y10 y11 y12 y13 y14 qlt
  go_loopw [13] (fun i wr => IsA12 w0 base q eb lb (nv : Int) S T p gb cap m n nv f mk ts bs qq i wr) (fun i _ => nv - (intOf i).toNat)
  case atStart => exact HRel.out
  case round =>
    clear HRel
    obtain ⟨v, hv, rfl, hL⟩ := hrel
    have HL := Lib.hid hL
    clear hL
    by_cases hvn : v < nv
    · have vI : (v : Int) < (nv : Int) := by omega
      have v0 : (0 : Int) ≤ (v : Int) := by omega
      obtain ⟨y0, y1, y2, y3, y4, y5, y6, y7, y8, y9, y10, y11, y12, y13, y14⟩ := HL.out.ps.pb.cells
      have qlt := HL.out.ps.pb.lt
      go_wp2_with fail
      refine (levels_yes _ _ _ HR.out _).mono ?_; rintro e w2 ⟨rfl, B2⟩; rw [HNL.out]
      have HL2 := Lib.hid (HL.out.below B2)
      clear HL B2 y0 y1 y2 y3 y4 y5 y6 y7 y8 y9 y10 y11 y12 y13 y14 qlt
      have HRel2 : Hid (IsB12 w0 base q eb lb (nv : Int) S T p gb cap (m + 260 * v) n nl f mk ts bs qq (.int .i64 0) w2) := Lib.hid ⟨0, Nat.zero_le _, rfl, HL2.out⟩
      clear HL2
      go_wp2_with fail
      go_loopw [21] (fun i wr => IsB12 w0 base q eb lb (nv : Int) S T p gb cap (m + 260 * v) n nl f mk ts bs qq i wr) (fun i _ => nl - (intOf i).toNat)
      case atStart => exact HRel2.out
      case round =>
        clear HRel2
        obtain ⟨l, hl, rfl, hL⟩ := hrel
        have HL := Lib.hid hL
        clear hL
        by_cases hln : l < nl
        · have lI : (l : Int) < (nl : Int) := by omega
          have l0 : (0 : Int) ≤ (l : Int) := by omega
          have HP : Hid ((v : Int) < (nv : Int) ∧ (l : Int) < lv (nv : Int)) := Lib.hid ⟨vI, by have := HNL.out; omega⟩
          have HM : Hid (m + 260 * v + 52 * l + 52 ≤ 99900000) := Lib.hid (by omega)
          obtain ⟨val, hli, _, hlook⟩ := HL.out.ps.fl.look (v := v) (l := l) (by omega) (by omega)
          have hk1 := hlook wr rfl
          have HZ := Lib.hid (IZ12.mk HL.out hli)
          have HQ := Lib.hid HL.out.lq
          obtain ⟨av, cv, e9, _, _⟩ := hli.shape
          have HLEN : Hid ((((qq v l).length : Nat) : Int) ≤ S) := Lib.hid (HLN.out v l)
          have hDl : (dl qq v l).length = (qq v l).length := by unfold dl; simp
          have HMK : Hid (hasB (mk (ndA (nv : Int) v l)) 0 = decide (qq v l ≠ [])) := Lib.hid (HL.out.mq v l HP.out.1 HP.out.2)
          have HD0 : Hid (dl qq v l = [] ↔ qq v l = []) := Lib.hid (by unfold dl; simp)
          obtain ⟨x, hx⟩ : ∃ x, ndA (nv : Int) v l = x := ⟨_, rfl⟩
          have HX : Hid (vertexF (nv : Int) (l : Int) (v : Int) = (x : Int) ∧ x ≠ 0 ∧ x ≤ nN (nv : Int) S) := Lib.hid (by
            obtain ⟨a1, a2, a3, a4⟩ := nd_int HR.out HP.out.1 HP.out.2
            rw [hx] at a1 a3 a4
            exact ⟨a1, by omega, a4⟩)
          rw [hx] at HMK
          subst e9
          have hcost : (qq v l).length ≤ 48 := by have := HLEN.out; omega
          have HCO := Lib.hid hcost
          obtain ⟨D, hD⟩ : ∃ D, dl qq v l = D := ⟨_, rfl⟩
          rw [hD] at HZ hDl HD0 hk1
          have HDD := Lib.hid hD
          have HLE : Hid (D.length ≤ 100000) := Lib.hid (by omega)
          obtain ⟨y0, y1, y2, y3, y4, y5, y6, y7, y8, y9, y10, y11, y12, y13, y14⟩ := HL.out.ps.pb.cells
          have qlt := HL.out.ps.pb.lt
          clear HL hli hlook hD hx hcost
          cases D with
          | nil =>
            as_aux_lemma =>
            have HMK2 : Hid (hasB (mk x) 0 = false) := Lib.hid (by rw [HMK.out]; exact decide_eq_false fun c => c (HD0.out.1 rfl))
            rw [List.length_nil] at hk1 HZ
            have HDL := hDl
            clear hDl HMK HD0
            go_wp2_with fail
            refine (first_any12 HZ.out.pm.ps.ta HQ.out HP.out.1 HP.out.2 (by have := HM.out; omega) rfl rfl).mono ?_; rintro e w4 ⟨rfl, A4, O4⟩; rw [HDD.out]; simp only [fsV]
            have H4 := Lib.hid (HZ.out.next A4 O4)
            clear HZ A4 O4 hk1 y0 y1 y2 y3 y4 y5 y6 y7 y8 y9 y10 y11 y12 y13 y14 qlt
            obtain ⟨y0, y1, y2, y3, y4, y5, y6, y7, y8, y9, y10, y11, y12, y13, y14⟩ := H4.out.pm.ps.pb.cells
            have qlt := H4.out.pm.ps.pb.lt
            go_upto_region 9 with fail
            clear y0 y1 y2 y3 y4 y5 y6 y7 y8 y9 y10 y11 y12 y13 y14 qlt
            have Hd := Lib.hid H4.out.drew
            clear H4
            obtain ⟨y0, y1, y2, y3, y4, y5, y6, y7, y8, y9, y10, y11, y12, y13, y14⟩ := Hd.out.pm.ps.pb.cells
            have qlt := Hd.out.pm.ps.pb.lt
            have hrule := PB12.rule q eb lb (nv : Int) S T p
            refine wp_region_held_drew (S := (fun W => PB12 W q eb lb (nv : Int) S T p)) (by kernel_rfl) ?_ (fun hHeld => ?_)
            · exact Hd.out.pm.ps.pb
            refine tkN (i := 0) (v := ?_) rfl ?_ ?_
            rotate_left
            · (intro w hSw; (try dsimp only at hSw); go_simp; try with_reducible rfl)
            try simp only [Act.put, sq1, sq2, sq3, sq4, sq5]
            refine tkN (i := 1) (v := ?_) rfl ?_ ?_
            rotate_left
            · (intro w hSw; (try dsimp only at hSw); go_simp; try with_reducible rfl)
            try simp only [Act.put, sq1, sq2, sq3, sq4, sq5, sq6]
            refine tkN (i := 2) (v := ?_) rfl ?_ ?_
            rotate_left
            · (intro w hSw; (try dsimp only at hSw); go_simp; try with_reducible rfl)
            try simp only [Act.put, sq1, sq2, sq3, sq4, sq5, sq6]
            refine tkN (i := 3) (v := ?_) rfl ?_ ?_
            rotate_left
            · (intro w hSw; (try dsimp only at hSw); go_simp; try with_reducible rfl)
            try simp only [Act.put, sq1, sq2, sq3, sq4, sq5, sq6]
            refine tkN (i := 4) (v := ?_) rfl ?_ ?_
            rotate_left
            · (intro w hSw; (try dsimp only at hSw); go_simp; try with_reducible rfl)
            try simp only [Act.put, sq1, sq2, sq3, sq4, sq5, sq6]
            refine tkN (i := 5) (v := ?_) rfl ?_ ?_
            rotate_left
            · (intro w hSw; (try dsimp only at hSw); go_simp; try with_reducible rfl)
            try simp only [Act.put, sq1, sq2, sq3, sq4, sq5, sq6]
            refine tkN (i := 7) (v := ?_) rfl ?_ ?_
            rotate_left
            · (intro w hSw; (try dsimp only at hSw); go_simp; try with_reducible rfl)
            try simp only [Act.put, sq1, sq2, sq3, sq4, sq5, sq6]
            refine wpAnyH_ready (rs := [6]) (by kernel_rfl) (by simp) ?_
            refine AllReadyH.cons rfl (fun K hK => ?_) ?_
            rotate_left
            · exact AllReadyH.nil
            go_simp
            (refine (list_any12 Hd.out.pm.ps.ta Hd.out.pm.lq HLEN.out HP.out.1 HP.out.2 (by have := HM.out; omega) rfl rfl).mono ?_; rintro e w5 ⟨vs, rfl, hli, _, A5, O5⟩; rw [HDD.out] at hli; have H5 := Lib.hid (Hd.out.next A5 O5); have HI5 := Lib.hid hli; clear hli A5 O5)
            go_wp2_with fail
            refine hK.out _ _ ?_ (fun hHeld => ?_)
            · (try dsimp only); (first | (with_reducible assumption) | (with_reducible exact H8.out.pm.ps.pb) | (with_reducible exact H7.out.pm.ps.pb) | (with_reducible exact H6.out.pm.ps.pb) | (with_reducible exact H5.out.pm.ps.pb) | (with_reducible exact Hd.out.pm.ps.pb))
            clear hK K
            try simp only [Act.put, sq1, sq2, sq3, sq4, sq5, sq6]
            refine wpAnyH_ready (rs := [8]) (by kernel_rfl) (by simp) ?_
            refine AllReadyH.cons rfl (fun K hK => ?_) ?_
            rotate_left
            · exact AllReadyH.nil
            go_simp
            (refine (same_yes12 HI5.out H5.out.li HLE.out).mono ?_; rintro e w6 ⟨rfl, hb6⟩; have H6 := Lib.hid (H5.out.below hb6))
            go_wp2_with fail
            refine hK.out _ _ ?_ (fun hHeld => ?_)
            · (try dsimp only); (first | (with_reducible assumption) | (with_reducible exact H8.out.pm.ps.pb) | (with_reducible exact H7.out.pm.ps.pb) | (with_reducible exact H6.out.pm.ps.pb) | (with_reducible exact H5.out.pm.ps.pb) | (with_reducible exact Hd.out.pm.ps.pb))
            clear hK K
            try simp only [Act.put, sq1, sq2, sq3, sq4, sq5, sq6]
            refine tkN (i := 9) (v := ?_) rfl ?_ ?_
            rotate_left
            · (intro w hSw; (try dsimp only at hSw); go_simp; try with_reducible rfl)
            try simp only [Act.put, sq1, sq2, sq3, sq4, sq5, sq6]
            refine tkN (i := 10) (v := ?_) rfl ?_ ?_
            rotate_left
            · (intro w hSw; (try dsimp only at hSw); go_simp; try with_reducible rfl)
            try simp only [Act.put, sq1, sq2, sq3, sq4, sq5, sq6]
            refine tkN (i := 11) (v := ?_) rfl ?_ ?_
            rotate_left
            · (intro w hSw; (try dsimp only at hSw); go_simp; try with_reducible rfl)
            try simp only [Act.put, sq1, sq2, sq3, sq4, sq5, sq6]
            refine tkN (i := 12) (v := ?_) rfl ?_ ?_
            rotate_left
            · (intro w hSw; (try dsimp only at hSw); go_simp; try with_reducible rfl)
            try simp only [Act.put, sq1, sq2, sq3, sq4, sq5, sq6]
            refine wpAnyH_ready (rs := [13]) (by kernel_rfl) (by simp) ?_
            refine AllReadyH.cons rfl (fun K hK => ?_) ?_
            rotate_left
            · exact AllReadyH.nil
            go_simp
            refine hK.out _ _ ?_ (fun hHeld => ?_)
            · (try dsimp only); (first | (with_reducible assumption) | (with_reducible exact H8.out.pm.ps.pb) | (with_reducible exact H7.out.pm.ps.pb) | (with_reducible exact H6.out.pm.ps.pb) | (with_reducible exact H5.out.pm.ps.pb) | (with_reducible exact Hd.out.pm.ps.pb))
            clear hK K
            try simp only [Act.put, sq1, sq2, sq3, sq4, sq5, sq6]
            refine tkN (i := 14) (v := ?_) rfl ?_ ?_
            rotate_left
            · (intro w hSw; (try dsimp only at hSw); go_simp; try with_reducible rfl)
            try simp only [Act.put, sq1, sq2, sq3, sq4, sq5, sq6]
            refine tkN (i := 15) (v := ?_) rfl ?_ ?_
            rotate_left
            · (intro w hSw; (try dsimp only at hSw); go_simp; try with_reducible rfl)
            try simp only [Act.put, sq1, sq2, sq3, sq4, sq5, sq6]
            refine tkN (i := 16) (v := ?_) rfl ?_ ?_
            rotate_left
            · (intro w hSw; (try dsimp only at hSw); go_simp; try with_reducible rfl)
            try simp only [Act.put, sq1, sq2, sq3, sq4, sq5, sq6]
            refine tkN (i := 17) (v := ?_) rfl ?_ ?_
            rotate_left
            · (intro w hSw; (try dsimp only at hSw); go_simp; try with_reducible rfl)
            try simp only [Act.put, sq1, sq2, sq3, sq4, sq5, sq6]
            refine tkN (i := 18) (v := ?_) rfl ?_ ?_
            rotate_left
            · (intro w hSw; (try dsimp only at hSw); go_simp; try with_reducible rfl)
            try simp only [Act.put, sq1, sq2, sq3, sq4, sq5, sq6]
            refine tkN (i := 19) (v := ?_) rfl ?_ ?_
            rotate_left
            · (intro w hSw; (try dsimp only at hSw); go_simp; try with_reducible rfl)
            try simp only [Act.put, sq1, sq2, sq3, sq4, sq5, sq6]
            refine tkF (i := 20) rfl ?_
            try simp only [Act.put, sq1, sq2, sq3, sq4, sq5, sq6]
            refine tkF (i := 21) rfl ?_
            try simp only [Act.put, sq1, sq2, sq3, sq4, sq5, sq6]
            refine tkF (i := 22) rfl ?_
            try simp only [Act.put, sq1, sq2, sq3, sq4, sq5, sq6]
            refine tkF (i := 23) rfl ?_
            try simp only [Act.put, sq1, sq2, sq3, sq4, sq5, sq6]
            refine tkF (i := 24) rfl ?_
            try simp only [Act.put, sq1, sq2, sq3, sq4, sq5, sq6]
            refine tkN (i := 25) (v := ?_) rfl ?_ ?_
            rotate_left
            · (intro w hSw; (try dsimp only at hSw); go_simp; try with_reducible rfl)
            try simp only [Act.put, sq1, sq2, sq3, sq4, sq5, sq6]
            refine tkN (i := 26) (v := ?_) rfl ?_ ?_
            rotate_left
            · (intro w hSw; (try dsimp only at hSw); go_simp; try with_reducible rfl)
            try simp only [Act.put, sq1, sq2, sq3, sq4, sq5, sq6]
            refine tkN (i := 27) (v := ?_) rfl ?_ ?_
            rotate_left
            · (intro w hSw; (try dsimp only at hSw); go_simp; try with_reducible rfl)
            try simp only [Act.put, sq1, sq2, sq3, sq4, sq5, sq6]
            refine tkN (i := 28) (v := ?_) rfl ?_ ?_
            rotate_left
            · (intro w hSw; (try dsimp only at hSw); go_simp; try with_reducible rfl)
            try simp only [Act.put, sq1, sq2, sq3, sq4, sq5, sq6]
            refine tkN (i := 29) (v := ?_) rfl ?_ ?_
            rotate_left
            · (intro w hSw; (try dsimp only at hSw); go_simp; try with_reducible rfl)
            try simp only [Act.put, sq1, sq2, sq3, sq4, sq5, sq6]
            refine tkN (i := 30) (v := ?_) rfl ?_ ?_
            rotate_left
            · (intro w hSw; (try dsimp only at hSw); go_simp; try with_reducible rfl)
            try simp only [Act.put, sq1, sq2, sq3, sq4, sq5, sq6]
            refine tkN (i := 31) (v := ?_) rfl ?_ ?_
            rotate_left
            · (intro w hSw; (try dsimp only at hSw); go_simp; try with_reducible rfl)
            try simp only [Act.put, sq1, sq2, sq3, sq4, sq5, sq6]
            refine tkN (i := 32) (v := ?_) rfl ?_ ?_
            rotate_left
            · (intro w hSw; (try dsimp only at hSw); go_simp; try with_reducible rfl)
            try simp only [Act.put, sq1, sq2, sq3, sq4, sq5, sq6]
            refine tkN (i := 33) (v := ?_) rfl ?_ ?_
            rotate_left
            · (intro w hSw; (try dsimp only at hSw); go_simp; try with_reducible rfl)
            try simp only [Act.put, sq1, sq2, sq3, sq4, sq5, sq6]
            refine tkN (i := 34) (v := ?_) rfl ?_ ?_
            rotate_left
            · (intro w hSw; (try dsimp only at hSw); go_simp; try with_reducible rfl)
            try simp only [Act.put, sq1, sq2, sq3, sq4, sq5, sq6]
            refine tkN (i := 35) (v := ?_) rfl ?_ ?_
            rotate_left
            · (intro w hSw; (try dsimp only at hSw); go_simp; try with_reducible rfl)
            try simp only [Act.put, sq1, sq2, sq3, sq4, sq5, sq6]
            refine tkN (i := 36) (v := ?_) rfl ?_ ?_
            rotate_left
            · (intro w hSw; (try dsimp only at hSw); go_simp; try with_reducible rfl)
            try simp only [Act.put, sq1, sq2, sq3, sq4, sq5, sq6]
            refine tkN (i := 37) (v := ?_) rfl ?_ ?_
            rotate_left
            · (intro w hSw; (try dsimp only at hSw); go_simp; try with_reducible rfl)
            try simp only [Act.put, sq1, sq2, sq3, sq4, sq5, sq6]
            refine tkN (i := 38) (v := ?_) rfl ?_ ?_
            rotate_left
            · (intro w hSw; (try dsimp only at hSw); go_simp; try with_reducible rfl)
            try simp only [Act.put, sq1, sq2, sq3, sq4, sq5, sq6]
            refine tkN (i := 39) (v := ?_) rfl ?_ ?_
            rotate_left
            · (intro w hSw; (try dsimp only at hSw); go_simp; try with_reducible rfl)
            try simp only [Act.put, sq1, sq2, sq3, sq4, sq5, sq6]
            refine tkN (i := 40) (v := ?_) rfl ?_ ?_
            rotate_left
            · (intro w hSw; (try dsimp only at hSw); go_simp; try with_reducible rfl)
            try simp only [Act.put, sq1, sq2, sq3, sq4, sq5, sq6]
            refine tkN (i := 41) (v := ?_) rfl ?_ ?_
            rotate_left
            · (intro w hSw; (try dsimp only at hSw); go_simp; try with_reducible rfl)
            try simp only [Act.put, sq1, sq2, sq3, sq4, sq5, sq6]
            refine tkN (i := 42) (v := ?_) rfl ?_ ?_
            rotate_left
            · (intro w hSw; (try dsimp only at hSw); go_simp; try with_reducible rfl)
            try simp only [Act.put, sq1, sq2, sq3, sq4, sq5, sq6]
            refine tkN (i := 43) (v := ?_) rfl ?_ ?_
            rotate_left
            · (intro w hSw; (try dsimp only at hSw); go_simp; try with_reducible rfl)
            try simp only [Act.put, sq1, sq2, sq3, sq4, sq5, sq6]
            refine tkN (i := 44) (v := ?_) rfl ?_ ?_
            rotate_left
            · (intro w hSw; (try dsimp only at hSw); go_simp; try with_reducible rfl)
            try simp only [Act.put, sq1, sq2, sq3, sq4, sq5, sq6]
            refine tkN (i := 45) (v := ?_) rfl ?_ ?_
            rotate_left
            · (intro w hSw; (try dsimp only at hSw); go_simp; try with_reducible rfl)
            try simp only [Act.put, sq1, sq2, sq3, sq4, sq5, sq6]
            refine tkN (i := 46) (v := ?_) rfl ?_ ?_
            rotate_left
            · (intro w hSw; (try dsimp only at hSw); go_simp; try with_reducible rfl)
            try simp only [Act.put, sq1, sq2, sq3, sq4, sq5, sq6]
            refine tkN (i := 47) (v := ?_) rfl ?_ ?_
            rotate_left
            · (intro w hSw; (try dsimp only at hSw); go_simp; try with_reducible rfl)
            try simp only [Act.put, sq1, sq2, sq3, sq4, sq5, sq6]
            refine tkN (i := 50) (v := ?_) rfl ?_ ?_
            rotate_left
            · (intro w hSw; (try dsimp only at hSw); go_simp; try with_reducible rfl)
            try simp only [Act.put, sq1, sq2, sq3, sq4, sq5, sq6]
            refine wpAnyH_ready (rs := [48]) (by kernel_rfl) (by simp) ?_
            refine AllReadyH.cons rfl (fun K hK => ?_) ?_
            rotate_left
            · exact AllReadyH.nil
            go_simp
            (refine (vertex_yes _ _ _ _ _ HR.out _).mono ?_; rintro e w7 ⟨rfl, hb7⟩; rw [HX.out.1]; have H7 := Lib.hid (H6.out.below hb7))
            go_wp2_with fail
            refine hK.out _ _ ?_ (fun hHeld => ?_)
            · (try dsimp only); (first | (with_reducible assumption) | (with_reducible exact H8.out.pm.ps.pb) | (with_reducible exact H7.out.pm.ps.pb) | (with_reducible exact H6.out.pm.ps.pb) | (with_reducible exact H5.out.pm.ps.pb) | (with_reducible exact Hd.out.pm.ps.pb))
            clear hK K
            try simp only [Act.put, sq1, sq2, sq3, sq4, sq5, sq6]
            refine wpAnyH_ready (rs := [49]) (by kernel_rfl) (by simp) ?_
            refine AllReadyH.cons rfl (fun K hK => ?_) ?_
            rotate_left
            · exact AllReadyH.nil
            go_simp
            (refine (ta_marked H7.out.pm.ps.ta HX.out.2.1 HX.out.2.2 (by decide : (0 : Nat) < 2) (by have := HM.out; have := HCO.out; omega) rfl rfl).mono ?_; rintro e w8 ⟨rfl, A8, O8⟩; rw [HMK2.out]; have H8 := Lib.hid (H7.out.next A8 O8))
            go_wp2_with fail
            refine hK.out _ _ ?_ (fun hHeld => ?_)
            · (try dsimp only); (first | (with_reducible assumption) | (with_reducible exact H8.out.pm.ps.pb) | (with_reducible exact H7.out.pm.ps.pb) | (with_reducible exact H6.out.pm.ps.pb) | (with_reducible exact H5.out.pm.ps.pb) | (with_reducible exact Hd.out.pm.ps.pb))
            clear hK K
            try simp only [Act.put, sq1, sq2, sq3, sq4, sq5, sq6]
            refine tkN (i := 51) (v := ?_) rfl ?_ ?_
            rotate_left
            · (intro w hSw; (try dsimp only at hSw); go_simp; try with_reducible rfl)
            try simp only [Act.put, sq1, sq2, sq3, sq4, sq5, sq6]
            refine tkN (i := 52) (v := ?_) rfl ?_ ?_
            rotate_left
            · (intro w hSw; (try dsimp only at hSw); go_simp; try with_reducible rfl)
            try simp only [Act.put, sq1, sq2, sq3, sq4, sq5, sq6]
            refine wpAnyH_done (by kernel_rfl) ?_ _
            clear hrule y0 y1 y2 y3 y4 y5 y6 y7 y8 y9 y10 y11 y12 y13 y14 qlt
            go_wp2_with fail
            exact ⟨⟨l + 1, by omega, by simp, H8.out.pm.more (by have := HCO.out; omega) (Nat.le_refl _)⟩, by simp [intOf]; omega⟩
          | cons s D =>
            as_aux_lemma =>
            have HMK2 : Hid (hasB (mk x) 0 = true) := Lib.hid (by rw [HMK.out]; exact decide_eq_true fun c => by have := HD0.out.2 c; cases this)
            obtain ⟨cb, co, rfl, hc0⟩ := HZ.out.li.cell0
            obtain ⟨ln, hln⟩ : ∃ k, (s :: D).length = k := ⟨_, rfl⟩
            rw [hln] at hk1 HZ
            have HLL := Lib.hid hln
            have lnI : (0 : Int) < (ln : Int) := by rw [← hln]; simp
            have ln0 : 0 < ln := by omega
            have nss : ((s : Int) != (s : Int)) = false := bne_self_eq_false _
            have clt := (show cb < wr.heap.size from cell_lt12 hc0)
            have HDL := hDl
            clear hDl HMK HD0
            go_wp2_with fail
            refine (first_any12 HZ.out.pm.ps.ta HQ.out HP.out.1 HP.out.2 (by have := HM.out; omega) rfl rfl).mono ?_; rintro e w4 ⟨rfl, A4, O4⟩; rw [HDD.out]; simp only [fsV]
            have H4 := Lib.hid (HZ.out.next A4 O4)
            clear HZ A4 O4 hk1 y0 y1 y2 y3 y4 y5 y6 y7 y8 y9 y10 y11 y12 y13 y14 qlt hc0 clt
            obtain ⟨y0, y1, y2, y3, y4, y5, y6, y7, y8, y9, y10, y11, y12, y13, y14⟩ := H4.out.pm.ps.pb.cells
            have qlt := H4.out.pm.ps.pb.lt
            have hc0 := H4.out.sz.2
            have clt := (show cb < w4.heap.size from cell_lt12 hc0)
            go_upto_region 9 with fail
            clear y0 y1 y2 y3 y4 y5 y6 y7 y8 y9 y10 y11 y12 y13 y14 qlt hc0 clt
            have Hd := Lib.hid H4.out.drew
            clear H4
            obtain ⟨y0, y1, y2, y3, y4, y5, y6, y7, y8, y9, y10, y11, y12, y13, y14⟩ := Hd.out.pm.ps.pb.cells
            have qlt := Hd.out.pm.ps.pb.lt
            have hc0 := Hd.out.sz.2
            have clt := (show cb < w4.drew.heap.size from cell_lt12 hc0)
            have hrule := SZ12.rule q eb lb p (nv : Int) S T cb co s
            refine wp_region_held_drew (S := (fun W => SZ12 W q eb lb p (nv : Int) S T cb co s)) (by kernel_rfl) ?_ (fun hHeld => ?_)
            · exact Hd.out.sz
            refine tkN (i := 0) (v := ?_) rfl ?_ ?_
            rotate_left
            · (intro w hSw; (try dsimp only at hSw); go_simp; try with_reducible rfl)
            try simp only [Act.put, sq1, sq2, sq3, sq4, sq5]
            refine tkN (i := 1) (v := ?_) rfl ?_ ?_
            rotate_left
            · (intro w hSw; (try dsimp only at hSw); go_simp; try with_reducible rfl)
            try simp only [Act.put, sq1, sq2, sq3, sq4, sq5, sq6]
            refine tkN (i := 2) (v := ?_) rfl ?_ ?_
            rotate_left
            · (intro w hSw; (try dsimp only at hSw); go_simp; try with_reducible rfl)
            try simp only [Act.put, sq1, sq2, sq3, sq4, sq5, sq6]
            refine tkN (i := 3) (v := ?_) rfl ?_ ?_
            rotate_left
            · (intro w hSw; (try dsimp only at hSw); go_simp; try with_reducible rfl)
            try simp only [Act.put, sq1, sq2, sq3, sq4, sq5, sq6]
            refine tkN (i := 4) (v := ?_) rfl ?_ ?_
            rotate_left
            · (intro w hSw; (try dsimp only at hSw); go_simp; try with_reducible rfl)
            try simp only [Act.put, sq1, sq2, sq3, sq4, sq5, sq6]
            refine tkN (i := 5) (v := ?_) rfl ?_ ?_
            rotate_left
            · (intro w hSw; (try dsimp only at hSw); go_simp; try with_reducible rfl)
            try simp only [Act.put, sq1, sq2, sq3, sq4, sq5, sq6]
            refine tkN (i := 7) (v := ?_) rfl ?_ ?_
            rotate_left
            · (intro w hSw; (try dsimp only at hSw); go_simp; try with_reducible rfl)
            try simp only [Act.put, sq1, sq2, sq3, sq4, sq5, sq6]
            refine wpAnyH_ready (rs := [6]) (by kernel_rfl) (by simp) ?_
            refine AllReadyH.cons rfl (fun K hK => ?_) ?_
            rotate_left
            · exact AllReadyH.nil
            go_simp
            (refine (list_any12 Hd.out.pm.ps.ta Hd.out.pm.lq HLEN.out HP.out.1 HP.out.2 (by have := HM.out; omega) rfl rfl).mono ?_; rintro e w5 ⟨vs, rfl, hli, _, A5, O5⟩; rw [HDD.out] at hli; have H5 := Lib.hid (Hd.out.next A5 O5); have HI5 := Lib.hid hli; clear hli A5 O5)
            go_wp2_with fail
            refine hK.out _ _ ?_ (fun hHeld => ?_)
            · (try dsimp only); (first | (with_reducible assumption) | (with_reducible exact H8.out.sz) | (with_reducible exact H7.out.sz) | (with_reducible exact H6.out.sz) | (with_reducible exact H5.out.sz) | (with_reducible exact Hd.out.sz))
            clear hK K
            try simp only [Act.put, sq1, sq2, sq3, sq4, sq5, sq6]
            refine wpAnyH_ready (rs := [8]) (by kernel_rfl) (by simp) ?_
            refine AllReadyH.cons rfl (fun K hK => ?_) ?_
            rotate_left
            · exact AllReadyH.nil
            go_simp
            (refine (same_yes12 HI5.out H5.out.li HLE.out).mono ?_; rintro e w6 ⟨rfl, hb6⟩; have H6 := Lib.hid (H5.out.below hb6))
            go_wp2_with fail
            refine hK.out _ _ ?_ (fun hHeld => ?_)
            · (try dsimp only); (first | (with_reducible assumption) | (with_reducible exact H8.out.sz) | (with_reducible exact H7.out.sz) | (with_reducible exact H6.out.sz) | (with_reducible exact H5.out.sz) | (with_reducible exact Hd.out.sz))
            clear hK K
            try simp only [Act.put, sq1, sq2, sq3, sq4, sq5, sq6]
            refine tkN (i := 9) (v := ?_) rfl ?_ ?_
            rotate_left
            · (intro w hSw; (try dsimp only at hSw); go_simp; try with_reducible rfl)
            try simp only [Act.put, sq1, sq2, sq3, sq4, sq5, sq6]
            refine tkN (i := 10) (v := ?_) rfl ?_ ?_
            rotate_left
            · (intro w hSw; (try dsimp only at hSw); go_simp; try with_reducible rfl)
            try simp only [Act.put, sq1, sq2, sq3, sq4, sq5, sq6]
            refine tkN (i := 11) (v := ?_) rfl ?_ ?_
            rotate_left
            · (intro w hSw; (try dsimp only at hSw); go_simp; try with_reducible rfl)
            try simp only [Act.put, sq1, sq2, sq3, sq4, sq5, sq6]
            refine tkN (i := 12) (v := ?_) rfl ?_ ?_
            rotate_left
            · (intro w hSw; (try dsimp only at hSw); go_simp; try with_reducible rfl)
            try simp only [Act.put, sq1, sq2, sq3, sq4, sq5, sq6]
            refine wpAnyH_ready (rs := [13]) (by kernel_rfl) (by simp) ?_
            refine AllReadyH.cons rfl (fun K hK => ?_) ?_
            rotate_left
            · exact AllReadyH.nil
            go_simp
            refine hK.out _ _ ?_ (fun hHeld => ?_)
            · (try dsimp only); (first | (with_reducible assumption) | (with_reducible exact H8.out.sz) | (with_reducible exact H7.out.sz) | (with_reducible exact H6.out.sz) | (with_reducible exact H5.out.sz) | (with_reducible exact Hd.out.sz))
            clear hK K
            try simp only [Act.put, sq1, sq2, sq3, sq4, sq5, sq6]
            refine tkN (i := 14) (v := ?_) rfl ?_ ?_
            rotate_left
            · (intro w hSw; (try dsimp only at hSw); go_simp; try with_reducible rfl)
            try simp only [Act.put, sq1, sq2, sq3, sq4, sq5, sq6]
            refine tkN (i := 15) (v := ?_) rfl ?_ ?_
            rotate_left
            · (intro w hSw; (try dsimp only at hSw); go_simp; try with_reducible rfl)
            try simp only [Act.put, sq1, sq2, sq3, sq4, sq5, sq6]
            refine tkN (i := 16) (v := ?_) rfl ?_ ?_
            rotate_left
            · (intro w hSw; (try dsimp only at hSw); go_simp; try with_reducible rfl)
            try simp only [Act.put, sq1, sq2, sq3, sq4, sq5, sq6]
            refine tkN (i := 17) (v := ?_) rfl ?_ ?_
            rotate_left
            · (intro w hSw; (try dsimp only at hSw); go_simp; try with_reducible rfl)
            try simp only [Act.put, sq1, sq2, sq3, sq4, sq5, sq6]
            refine tkN (i := 18) (v := ?_) rfl ?_ ?_
            rotate_left
            · (intro w hSw; (try dsimp only at hSw); go_simp; try with_reducible rfl)
            try simp only [Act.put, sq1, sq2, sq3, sq4, sq5, sq6]
            refine tkN (i := 19) (v := ?_) rfl ?_ ?_
            rotate_left
            · (intro w hSw; (try dsimp only at hSw); go_simp; try with_reducible rfl)
            try simp only [Act.put, sq1, sq2, sq3, sq4, sq5, sq6]
            refine tkN (i := 20) (v := ?_) rfl ?_ ?_
            rotate_left
            · (intro w hSw; (try dsimp only at hSw); go_simp; try with_reducible rfl)
            try simp only [Act.put, sq1, sq2, sq3, sq4, sq5, sq6]
            refine tkN (i := 21) (v := ?_) rfl ?_ ?_
            rotate_left
            · (intro w hSw; (try dsimp only at hSw); go_simp; try with_reducible rfl)
            try simp only [Act.put, sq1, sq2, sq3, sq4, sq5, sq6]
            refine tkN (i := 22) (v := ?_) rfl ?_ ?_
            rotate_left
            · (intro w hSw; (try dsimp only at hSw); go_simp; try with_reducible rfl)
            try simp only [Act.put, sq1, sq2, sq3, sq4, sq5, sq6]
            refine tkN (i := 23) (v := ?_) rfl ?_ ?_
            rotate_left
            · (intro w hSw; (try dsimp only at hSw); go_simp; try with_reducible rfl)
            try simp only [Act.put, sq1, sq2, sq3, sq4, sq5, sq6]
            refine tkN (i := 24) (v := ?_) rfl ?_ ?_
            rotate_left
            · (intro w hSw; (try dsimp only at hSw); go_simp; try with_reducible rfl)
            try simp only [Act.put, sq1, sq2, sq3, sq4, sq5, sq6]
            refine tkN (i := 25) (v := ?_) rfl ?_ ?_
            rotate_left
            · (intro w hSw; (try dsimp only at hSw); go_simp; try with_reducible rfl)
            try simp only [Act.put, sq1, sq2, sq3, sq4, sq5, sq6]
            refine tkN (i := 26) (v := ?_) rfl ?_ ?_
            rotate_left
            · (intro w hSw; (try dsimp only at hSw); go_simp; try with_reducible rfl)
            try simp only [Act.put, sq1, sq2, sq3, sq4, sq5, sq6]
            refine tkN (i := 27) (v := ?_) rfl ?_ ?_
            rotate_left
            · (intro w hSw; (try dsimp only at hSw); go_simp; try with_reducible rfl)
            try simp only [Act.put, sq1, sq2, sq3, sq4, sq5, sq6]
            refine tkN (i := 28) (v := ?_) rfl ?_ ?_
            rotate_left
            · (intro w hSw; (try dsimp only at hSw); go_simp; try with_reducible rfl)
            try simp only [Act.put, sq1, sq2, sq3, sq4, sq5, sq6]
            refine tkN (i := 29) (v := ?_) rfl ?_ ?_
            rotate_left
            · (intro w hSw; (try dsimp only at hSw); go_simp; try with_reducible rfl)
            try simp only [Act.put, sq1, sq2, sq3, sq4, sq5, sq6]
            refine tkN (i := 30) (v := ?_) rfl ?_ ?_
            rotate_left
            · (intro w hSw; (try dsimp only at hSw); go_simp; try with_reducible rfl)
            try simp only [Act.put, sq1, sq2, sq3, sq4, sq5, sq6]
            refine tkF (i := 31) rfl ?_
            try simp only [Act.put, sq1, sq2, sq3, sq4, sq5, sq6]
            refine tkF (i := 32) rfl ?_
            try simp only [Act.put, sq1, sq2, sq3, sq4, sq5, sq6]
            refine tkN (i := 33) (v := ?_) rfl ?_ ?_
            rotate_left
            · (intro w hSw; (try dsimp only at hSw); go_simp; try with_reducible rfl)
            try simp only [Act.put, sq1, sq2, sq3, sq4, sq5, sq6]
            refine tkN (i := 34) (v := ?_) rfl ?_ ?_
            rotate_left
            · (intro w hSw; (try dsimp only at hSw); go_simp; try with_reducible rfl)
            try simp only [Act.put, sq1, sq2, sq3, sq4, sq5, sq6]
            refine tkN (i := 35) (v := ?_) rfl ?_ ?_
            rotate_left
            · (intro w hSw; (try dsimp only at hSw); go_simp; try with_reducible rfl)
            try simp only [Act.put, sq1, sq2, sq3, sq4, sq5, sq6]
            refine tkN (i := 36) (v := ?_) rfl ?_ ?_
            rotate_left
            · (intro w hSw; (try dsimp only at hSw); go_simp; try with_reducible rfl)
            try simp only [Act.put, sq1, sq2, sq3, sq4, sq5, sq6]
            refine tkN (i := 37) (v := ?_) rfl ?_ ?_
            rotate_left
            · (intro w hSw; (try dsimp only at hSw); go_simp; try with_reducible rfl)
            try simp only [Act.put, sq1, sq2, sq3, sq4, sq5, sq6]
            refine tkN (i := 38) (v := ?_) rfl ?_ ?_
            rotate_left
            · (intro w hSw; (try dsimp only at hSw); go_simp; try with_reducible rfl)
            try simp only [Act.put, sq1, sq2, sq3, sq4, sq5, sq6]
            refine tkN (i := 39) (v := ?_) rfl ?_ ?_
            rotate_left
            · (intro w hSw; (try dsimp only at hSw); go_simp; try with_reducible rfl)
            try simp only [Act.put, sq1, sq2, sq3, sq4, sq5, sq6]
            refine tkN (i := 40) (v := ?_) rfl ?_ ?_
            rotate_left
            · (intro w hSw; (try dsimp only at hSw); go_simp; try with_reducible rfl)
            try simp only [Act.put, sq1, sq2, sq3, sq4, sq5, sq6]
            refine tkN (i := 41) (v := ?_) rfl ?_ ?_
            rotate_left
            · (intro w hSw; (try dsimp only at hSw); go_simp; try with_reducible rfl)
            try simp only [Act.put, sq1, sq2, sq3, sq4, sq5, sq6]
            refine tkN (i := 42) (v := ?_) rfl ?_ ?_
            rotate_left
            · (intro w hSw; (try dsimp only at hSw); go_simp; try with_reducible rfl)
            try simp only [Act.put, sq1, sq2, sq3, sq4, sq5, sq6]
            refine tkN (i := 43) (v := ?_) rfl ?_ ?_
            rotate_left
            · (intro w hSw; (try dsimp only at hSw); go_simp; try with_reducible rfl)
            try simp only [Act.put, sq1, sq2, sq3, sq4, sq5, sq6]
            refine tkN (i := 44) (v := ?_) rfl ?_ ?_
            rotate_left
            · (intro w hSw; (try dsimp only at hSw); go_simp; try with_reducible rfl)
            try simp only [Act.put, sq1, sq2, sq3, sq4, sq5, sq6]
            refine tkN (i := 45) (v := ?_) rfl ?_ ?_
            rotate_left
            · (intro w hSw; (try dsimp only at hSw); go_simp; try with_reducible rfl)
            try simp only [Act.put, sq1, sq2, sq3, sq4, sq5, sq6]
            refine tkN (i := 46) (v := ?_) rfl ?_ ?_
            rotate_left
            · (intro w hSw; (try dsimp only at hSw); go_simp; try with_reducible rfl)
            try simp only [Act.put, sq1, sq2, sq3, sq4, sq5, sq6]
            refine tkN (i := 47) (v := ?_) rfl ?_ ?_
            rotate_left
            · (intro w hSw; (try dsimp only at hSw); go_simp; try with_reducible rfl)
            try simp only [Act.put, sq1, sq2, sq3, sq4, sq5, sq6]
            refine tkN (i := 50) (v := ?_) rfl ?_ ?_
            rotate_left
            · (intro w hSw; (try dsimp only at hSw); go_simp; try with_reducible rfl)
            try simp only [Act.put, sq1, sq2, sq3, sq4, sq5, sq6]
            refine wpAnyH_ready (rs := [48]) (by kernel_rfl) (by simp) ?_
            refine AllReadyH.cons rfl (fun K hK => ?_) ?_
            rotate_left
            · exact AllReadyH.nil
            go_simp
            (refine (vertex_yes _ _ _ _ _ HR.out _).mono ?_; rintro e w7 ⟨rfl, hb7⟩; rw [HX.out.1]; have H7 := Lib.hid (H6.out.below hb7))
            go_wp2_with fail
            refine hK.out _ _ ?_ (fun hHeld => ?_)
            · (try dsimp only); (first | (with_reducible assumption) | (with_reducible exact H8.out.sz) | (with_reducible exact H7.out.sz) | (with_reducible exact H6.out.sz) | (with_reducible exact H5.out.sz) | (with_reducible exact Hd.out.sz))
            clear hK K
            try simp only [Act.put, sq1, sq2, sq3, sq4, sq5, sq6]
            refine wpAnyH_ready (rs := [49]) (by kernel_rfl) (by simp) ?_
            refine AllReadyH.cons rfl (fun K hK => ?_) ?_
            rotate_left
            · exact AllReadyH.nil
            go_simp
            (refine (ta_marked H7.out.pm.ps.ta HX.out.2.1 HX.out.2.2 (by decide : (0 : Nat) < 2) (by have := HM.out; have := HCO.out; omega) rfl rfl).mono ?_; rintro e w8 ⟨rfl, A8, O8⟩; rw [HMK2.out]; have H8 := Lib.hid (H7.out.next A8 O8))
            go_wp2_with fail
            refine hK.out _ _ ?_ (fun hHeld => ?_)
            · (try dsimp only); (first | (with_reducible assumption) | (with_reducible exact H8.out.sz) | (with_reducible exact H7.out.sz) | (with_reducible exact H6.out.sz) | (with_reducible exact H5.out.sz) | (with_reducible exact Hd.out.sz))
            clear hK K
            try simp only [Act.put, sq1, sq2, sq3, sq4, sq5, sq6]
            refine tkN (i := 51) (v := ?_) rfl ?_ ?_
            rotate_left
            · (intro w hSw; (try dsimp only at hSw); go_simp; try with_reducible rfl)
            try simp only [Act.put, sq1, sq2, sq3, sq4, sq5, sq6]
            refine tkN (i := 52) (v := ?_) rfl ?_ ?_
            rotate_left
            · (intro w hSw; (try dsimp only at hSw); go_simp; try with_reducible rfl)
            try simp only [Act.put, sq1, sq2, sq3, sq4, sq5, sq6]
            refine wpAnyH_done (by kernel_rfl) ?_ _
            clear hrule y0 y1 y2 y3 y4 y5 y6 y7 y8 y9 y10 y11 y12 y13 y14 qlt hc0 clt
            go_wp2_with fail
            exact ⟨⟨l + 1, by omega, by simp, H8.out.pm.more (by have := HCO.out; omega) (Nat.le_refl _)⟩, by simp [intOf]; omega⟩
        · have ek : l = nl := by omega
          subst ek
          have kI : ¬ (l : Int) < (l : Int) := by omega
          clear hl hln
          go_wp2_with fail
          exact ⟨⟨v + 1, by omega, by simp, HL.out.more (by omega) (Nat.le_refl _)⟩, by simp [intOf]; omega⟩
    · have ek : v = nv := by omega
      subst ek
      have kI : ¬ (v : Int) < (v : Int) := by omega
      clear hv hvn
      go_wp2_with fail
      go_ret
      exact ⟨rfl, HL.out.more (by omega) (Nat.le_refl _)⟩
end
end Go.Proofs.Ytaooglagddphnaa
