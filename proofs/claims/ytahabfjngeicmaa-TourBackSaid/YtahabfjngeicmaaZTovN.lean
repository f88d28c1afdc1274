/- The law's fixed answer: its walk. Printed by wip/tools/tovn.py. -/
import Derived.Test.YtahabfjngeicmaaZTovM
import Derived.Test.YtahabfjngeicmaaZTovA
namespace Go.Proofs.Ytahabfjngeicmaa
open Go.RowKit

set_option maxRecDepth 100000
set_option maxHeartbeats 4000000 in
theorem awake_any10 (w : World) : Calls Try.prog 9 #[] w fun e w' => e = .returned (.bool true) ∧ Below w.heap.size w w' := by
  go_enter Try.func9, Try.ntmps9
  go_wp2_with fail
  refine (begun_any10 (V := 2) (S := 1) (T := 1) (da := none) (dl := 0) (dc := 0) (vo := .slice none 0 0) (f := fun _ => 0) R211 (fun h => absurd h (Nat.lt_irrefl _)) (by omega) (by omega) (by omega)).mono ?_
  rintro e w1 ⟨n, q, pp, gb, rb, lb, cr, cl, gB, g, vr, rfl, hpl, hb⟩
  have hn : 0 < n := by have h1 := hpl.pg.hn; have h2 : lv 2 = 2 := (by decide); omega
  have HLv := Lib.hid (hpl.lv 0 hn)
  have H1 : Hid (AX w w1 2 1 1 n q pp gb (cellsN 2 1 1) rb lb cr cl w.heap.size gB (10 * nN 2 1) g (sing (nN 2 1)) vr (fun L => rows0 2 L (2 : Int).toNat) (fun _ => gr0 1)) := Lib.hid ⟨hpl.pg, hb, Nat.le_refl _⟩
  clear hpl hb
  obtain ⟨y0, y1, y2, y3, y4, y5, y6, y7, y8, y9, y10⟩ := PQ.rule _ _ _ _ _ _ _ _ _ _ _ H1.out.pq
  have qlt := H1.out.pg.lt
  go_wp2_with fail
  refine (aw_link H1.out.pg.fm HLv.out (by rw [n8]; omega)).mono ?_
  rintro e w2 ⟨g1, ts1, t, rfl, A1, M1, R1, O1⟩
  have H2 := Lib.hid (H1.out.tree A1 O1)
  have HT := Lib.hid (And.intro M1 R1)
  clear H1 A1 M1 R1 O1 HLv y0 y1 y2 y3 y4 y5 y6 y7 y8 y9 y10 qlt
  obtain ⟨y0, y1, y2, y3, y4, y5, y6, y7, y8, y9, y10⟩ := PQ.rule _ _ _ _ _ _ _ _ _ _ _ H2.out.pq
  have qlt := H2.out.pg.lt
  go_wp2_with fail
  have Hd := Lib.hid H2.out.drew
  have hrule := PQ.rule q pp rb lb n cr cl 2 1 1
  clear H2 y0 y1 y2 y3 y4 y5 y6 y7 y8 y9 y10 qlt
  obtain ⟨y0, y1, y2, y3, y4, y5, y6, y7, y8, y9, y10⟩ := PQ.rule _ _ _ _ _ _ _ _ _ _ _ Hd.out.pq
  have qlt := Hd.out.pg.lt
  go_region_held3 (fun W => PQ W q pp rb lb n cr cl 2 1 1) (first | (with_reducible assumption) | (with_reducible exact H5.out.pq) | (with_reducible exact H4.out.pq) | (with_reducible exact H3.out.pq) | (with_reducible exact Hd.out.pq))
    (first
      | (go_at_call 15; ((with_reducible refine (aw_list Hd.out.pg.fm HT.out.1 HT.out.2 (by omega)).mono ?_); rintro e w3 ⟨lv1, rfl, L1, A1, O1⟩; have H3 := Lib.hid (Hd.out.tree A1 O1); have HL3 := Lib.hid L1))
      | (go_at_call 13; ((with_reducible refine (aw_same H3.out.pg.fm HT.out.1 HT.out.2 (by omega)).mono ?_); rintro e w3 ⟨rfl, A1, O1⟩; have H4 := Lib.hid (H3.out.tree A1 O1); have HL4 := Lib.hid (HL3.out.onlyT H3.out.pg.fm.tm O1)))
      | (go_at_call 33; ((with_reducible refine (aw_count H4.out.pg.fm HT.out.1 HT.out.2 (by omega)).mono ?_); rintro e w3 ⟨rfl, A1, O1⟩; have H5 := Lib.hid (H4.out.tree A1 O1); have HL5 := Lib.hid (HL4.out.onlyT H4.out.pg.fm.tm O1))))
  clear Hd H3 H4 HL3 HL4 hrule y0 y1 y2 y3 y4 y5 y6 y7 y8 y9 y10 qlt
  obtain ⟨y0, y1, y2, y3, y4, y5, y6, y7, y8, y9, y10⟩ := PQ.rule _ _ _ _ _ _ _ _ _ _ _ H5.out.pq
  have qlt := H5.out.pg.lt
  go_wp2_with fail
  refine (aw_linked H5.out.pg.fm HT.out.1 HT.out.2 (by omega)).mono ?_
  rintro e w4 ⟨rfl, A1, O1⟩
  have H6 := Lib.hid (H5.out.tree A1 O1)
  have HL6 := Lib.hid (HL5.out.onlyT H5.out.pg.fm.tm O1)
  clear H5 HL5 A1 O1 y0 y1 y2 y3 y4 y5 y6 y7 y8 y9 y10 qlt
  obtain ⟨y0, y1, y2, y3, y4, y5, y6, y7, y8, y9, y10⟩ := PQ.rule _ _ _ _ _ _ _ _ _ _ _ H6.out.pq
  have qlt := H6.out.pg.lt
  go_wp2_with fail
  refine (aw_cut H6.out.pg.fm HT.out.1 HT.out.2 (by omega)).mono ?_
  rintro e w5 ⟨g2, ts2, ti, tu, ct, dt, rfl, A1, hi, hu, hc, hd, O1⟩
  have H7 := Lib.hid (H6.out.tree A1 O1)
  have HL7 := Lib.hid (HL6.out.onlyT H6.out.pg.fm.tm O1)
  have HP := Lib.hid (And.intro hi (And.intro hu (And.intro hc hd)))
  clear H6 HL6 A1 O1 hi hu hc hd HT y0 y1 y2 y3 y4 y5 y6 y7 y8 y9 y10 qlt
  obtain ⟨la, lc, rfl, _⟩ := HL7.out.shape
  obtain ⟨b1, o1, rfl, c1⟩ := HL7.out.at (k := 0) (x := 1) rfl
  rw [Nat.add_zero] at c1
  have c2 := HL7.out.cell_at (k := 2) (x := 2) rfl
  obtain ⟨y0, y1, y2, y3, y4, y5, y6, y7, y8, y9, y10⟩ := PQ.rule _ _ _ _ _ _ _ _ _ _ _ H7.out.pq
  have qlt := H7.out.pg.lt
  go_wp2_with fail
  refine (aw_same2 H7.out.pg.fm HP.out.1 HP.out.2.1 (by omega)).mono ?_
  rintro e w6 ⟨rfl, A1, O1⟩
  have H8 := Lib.hid (H7.out.tree A1 O1)
  clear H7 HL7 A1 O1 c1 c2 y0 y1 y2 y3 y4 y5 y6 y7 y8 y9 y10 qlt
  obtain ⟨y0, y1, y2, y3, y4, y5, y6, y7, y8, y9, y10⟩ := PQ.rule _ _ _ _ _ _ _ _ _ _ _ H8.out.pq
  have qlt := H8.out.pg.lt
  go_wp2_with fail
  refine (aw_linked2 H8.out.pg.fm HP.out.2.2.1 HP.out.2.2.2 (by omega)).mono ?_
  rintro e w7 ⟨rfl, A1, O1⟩
  have H9 := Lib.hid (H8.out.tree A1 O1)
  clear H8 A1 O1 y0 y1 y2 y3 y4 y5 y6 y7 y8 y9 y10 qlt
  obtain ⟨y0, y1, y2, y3, y4, y5, y6, y7, y8, y9, y10⟩ := PQ.rule _ _ _ _ _ _ _ _ _ _ _ H9.out.pq
  have qlt := H9.out.pg.lt
  go_wp2_with fail
  refine (aw_count2 H9.out.pg.fm HP.out.2.1 (by omega)).mono ?_
  rintro e w8 ⟨rfl, A1, O1⟩
  have H10 := Lib.hid (H9.out.tree A1 O1)
  clear H9 A1 O1 y0 y1 y2 y3 y4 y5 y6 y7 y8 y9 y10 qlt
  go_wp2_with fail
  go_ret
  exact ⟨rfl, H10.out.be⟩

end Go.Proofs.Ytahabfjngeicmaa
