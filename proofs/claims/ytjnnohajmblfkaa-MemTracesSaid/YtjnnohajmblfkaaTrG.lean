/- The contract of Changed. -/
import Derived.Test.YtjnnohajmblfkaaTrF
namespace Go.Proofs.Ytjnnohajmblfkaa
open Go.RowKit

theorem info_int : (Try.prog.info? 3).map (fun i => (i.zero, i.size, i.bytes)) = some (some (.int .i64 0), 1, 8) := by kernel_rfl

theorem int_new (w : World) (z : Int) (ty : TypeId) : ∀ (j : Nat) u, [Value.int .i64 z][j]? = some u → (w.alloc (.cells #[.int .i64 z] ty)).cell? ((⟨w.heap.size, 0, none⟩ : Addr).add j) = some u := cell_one_new w _ ty

/-- What Changed tells. -/
def Changed (zs : List Int) (w : World) (e : Ending) (w' : World) : Prop := ∃ a cap, e = .returned (.slice a zs.length cap) ∧ RowI w' w.heap.size (.slice a zs.length cap) zs ∧ Below w.heap.size w w'

def ChRel (xs : List AccV) (w : World) (sv i : Value) (wr : World) : Prop :=
  ∃ k : Nat, k ≤ xs.length ∧ i = .int .i64 k ∧ RowI wr w.heap.size sv (storedOf (xs.take k)) ∧ Below w.heap.size w wr

theorem sort_any {w w0 : World} {B : Nat} {v : Value} {zs : List Int} (R : RowI w B v zs) (hl : zs.length ≤ 1000000) (hB : Below B w0 w) (hBs : B ≤ w.heap.size) :
    Calls Try.prog 25 #[v] w fun e w' => e = .returned (.tuple #[]) ∧ RowI w' B v (zs.mergeSort fun x y => decide (x ≤ y)) ∧ Below B w0 w' := by
  rcases R.shape with ⟨rfl, rfl⟩ | ⟨g, cap, cs, rfl, hg, hb, h1, h2, h3, h4⟩
  · refine (Try.slices_Sort_int_none none 0 w).mono ?_
    rintro e w' ⟨rfl, rfl⟩
    exact ⟨rfl, by simpa using RowI.nil _ _, hB⟩
  · refine (Try.slices_Sort_int g 0 cap zs w (holds_of_blockI hb h4) hb.lt (by omega)).mono ?_
    rintro e w' ⟨rfl, n, os, rfl⟩
    refine ⟨rfl, ?_, hB.grown (grownBy_sortedI _) hBs (fun k hk => by cases hk; exact hg)⟩
    have := ownsRow_sortedI (n := n) (os := os) (ss := zs) (ts := zs.mergeSort fun x y => decide (x ≤ y)) (by simp) hg hb h1 h2 h3
    unfold RowI
    simpa using this

theorem compact_any {w w0 : World} {B : Nat} {v : Value} {zs : List Int} (R : RowI w B v zs) (hl : zs.length ≤ 1000000) (hB : Below B w0 w) (hBs : B ≤ w.heap.size) :
    Calls Try.prog 26 #[v] w fun e w' => ∃ a cap, e = .returned (.slice a (Lib.compact zs).length cap) ∧ RowI w' B (.slice a (Lib.compact zs).length cap) (Lib.compact zs) ∧ Below B w0 w' := by
  rcases R.shape with ⟨rfl, rfl⟩ | ⟨g, cap, cs, rfl, hg, hb, h1, h2, h3, h4⟩
  · refine (Try.slices_Compact_int_empty none 0 w).mono ?_
    rintro e w' ⟨rfl, rfl⟩
    exact ⟨none, 0, rfl, RowI.nil _ _, hB⟩
  · refine (Try.slices_Compact_int g 0 cap zs w (holds_of_blockI hb h4) (by omega) h1).mono ?_
    rintro e w' ⟨rfl, q, rfl⟩
    have hc := compact_length zs
    generalize hd : Lib.compact zs ++ List.replicate (zs.length - (Lib.compact zs).length) 0 = ds
    have hdl : ds.length = zs.length := by rw [← hd]; simp; omega
    have e0 : Sort.putRow (Value.int .i64) (Sort.ahead w q) g 0 ds.toArray = Sort.grow (Sort.putRow (Value.int .i64) (Sort.ahead w q) g 0 ds.toArray) #[] := by simp
    rw [e0]
    refine ⟨_, cap, rfl, ⟨by simp, .inr ⟨g, cap, _, rfl, hg, heap_sortedI _ hb, by omega, h2, by simp [Sort.putCells, h3], ?_⟩⟩, hB.grown (grownBy_sortedI _) hBs (fun k hk => by cases hk; exact hg)⟩
    have := take_putCellsI cs ds (by omega)
    rw [Nat.mul_one]
    have h5 : (Sort.putCells (Value.int .i64) 0 ds.toArray cs).toList.take (Lib.compact zs).length = (ds.map (Value.int .i64)).take (Lib.compact zs).length := by
      rw [← this, List.take_take, Nat.min_eq_left (by omega)]
    rw [h5, ← hd]
    simp

section
variable {base t p g n cap k : Nat} {c f : Nat → Int} {v : Value} {xs : List AccV} {w : World}
set_option maxRecDepth 100000 in
set_option maxHeartbeats 4000000 in
theorem changed_any (T : Tr w base t p g n cap c f v xs) (hl : xs.length ≤ 100000) :
    Calls Try.prog 15 #[.pointer (some ⟨t, 0, none⟩)] w (Changed (risen (storedOf xs)) w) := by
  obtain ⟨i0, hi0, hz0, hz1, hz2⟩ := info_parts info_int
  have h1 := T.c1
  have HT := Lib.hid T; clear T
  obtain ⟨a, cp, hv, hcells⟩ : ∃ a cp, v = .slice a xs.length cp ∧ IsAcc w a xs := by
    rcases HT.out.row.shape with ⟨rfl, rfl⟩ | ⟨g, cap, cs, rfl, hg, hb, _, _, hcs⟩
    · exact ⟨none, 0, rfl, fun h => absurd rfl h⟩
    · refine ⟨_, cap, rfl, fun _ => ⟨g, 0, rfl, fun k x hx => ?_⟩⟩
      have := hcs k x hx
      rw [hb.cell, hb.cell, hb.cell]
      simpa using this
  subst hv
  have HC := Lib.hid hcells; clear hcells
  go_enter Try.func15, Try.ntmps15
  go_wp2_with fail
  go_loopw [3, 11] (fun sv i wr => ChRel xs w sv i wr) (fun _ i _ => xs.length - (intOf i).toNat)
  case atStart => exact ⟨0, Nat.zero_le _, rfl, RowI.nil _ _, Below.refl _ _⟩
  case round =>
    obtain ⟨k, hk, rfl, R, B⟩ := hrel
    by_cases hlt : k < xs.length
    · obtain ⟨b, off, rfl, hcells⟩ := HC.out (by intro h; rw [h] at hlt; exact absurd hlt (Nat.not_lt_zero _))
      obtain ⟨x, hxk⟩ : ∃ x, xs[k]? = some x := ⟨_, List.getElem?_eq_getElem hlt⟩
      obtain ⟨x0, x1, x2⟩ := hcells k x hxk
      clear hcells
      have y0 := cell_later B x0
      have y1 := cell_later B x1
      have y2 := cell_later B x2
      clear x0 x1 x2
      have hst := storedOf_take xs hxk
      have hm := storedOf_length (xs.take k)
      rw [List.length_take] at hm
      have hm' : (storedOf (xs.take k)).length ≤ 100000 := by omega
      clear hm hxk
      have HB := Lib.hid B; clear B
      by_cases hs : x.s = true
      · rw [hs] at hst y0
        have HR := Lib.hid R; clear R
        have HST := Lib.hid hst; clear hst
        generalize storedOf (xs.take k) = zs at HR HST hm'
        have hbase : w.heap.size ≤ wr.heap.size := HB.out.size
        go_wp2_with (at_builtin
                     refine wpList_append_own_at _ rfl _ _ 41 rfl w.heap.size 3 i0 _ 1 8 Try.underlying41 hi0 hz0 hz1 hz2 rfl (by omega) _ zs.length (zs.map (Value.int .i64)) rfl
                       ((HR.out.alloc _).alloc _) ⟨wr.heap.size + 1, 0, none⟩ 1 1 [.int .i64 x.c] rfl rfl ?c1 ?c2 (by simp only [maxLen]; omega) (by omega) (by simp; omega) ?_)
        case c2 => rfl
        intro v' w2 hown hgrow _ hat
        have R2 : RowI w2 w.heap.size v' (storedOf (xs.take (k + 1))) := by
          rw [HST.out]
          unfold RowI
          simpa using hown
        have B2 : Below w.heap.size w w2 := ((HB.out.alloc hbase _).alloc (by simp; omega) _).grown hgrow (by simp; omega) (fun i hi => (HR.out.lt i hi).1)
        have HR2 : Hid (ChRel xs w v' (.int .i64 ((k : Int) + 1)) w2) := ⟨k + 1, by omega, by go_num, R2, B2⟩
        clear hown hgrow hat R2 B2
        go_wp2_with fail
        exact ⟨HR2.out, by simp [intOf]; omega⟩
      · have hs' : x.s = false := by simpa using hs
        rw [hs'] at hst y0
        simp only [Bool.false_eq_true, if_false, List.append_nil] at hst
        rw [← hst] at R
        have HR2 : Hid (ChRel xs w u3 (.int .i64 ((k : Int) + 1)) (wr.alloc (.cells #[.bool false, .int .i64 x.c, .int .u64 x.v] 37))) := ⟨k + 1, by omega, by go_num, R.alloc _, HB.out.alloc HB.out.size _⟩
        clear R hst hs hs'
        go_wp2_with fail
        exact ⟨HR2.out, by simp [intOf]; omega⟩
    · have hkl : k = xs.length := by omega
      subst hkl
      rw [List.take_length] at R
      have hll := storedOf_length xs
      have HR := Lib.hid R; clear R
      have HB := Lib.hid B; clear B
      obtain ⟨zs, hzs⟩ : ∃ zs, zs = storedOf xs := ⟨_, rfl⟩
      rw [← hzs] at HR hll
      have hE : Hid (Lib.compact (zs.mergeSort fun x y => decide (x ≤ y)) = risen (storedOf xs)) := by rw [hzs]; rfl
      clear hzs
      go_wp2_with fail
      refine (sort_any HR.out (by omega) HB.out HB.out.size).mono ?_; rintro e w1 ⟨rfl, R1, B1⟩
      have hl1 : (zs.mergeSort fun x y => decide (x ≤ y)).length ≤ 1000000 := by simp; omega
      generalize (zs.mergeSort fun x y => decide (x ≤ y)) = ys at R1 hl1 hE
      have HR1 := Lib.hid R1; clear R1
      have HB1 := Lib.hid B1; clear B1
      go_wp2_with fail
      refine (compact_any HR1.out hl1 HB1.out HB1.out.size).mono ?_; rintro e w2 ⟨a2, cap2, rfl, R2, B2⟩
      go_wp2_with fail
      go_ret
      have e := hE.out
      rw [e] at R2 ⊢
      exact ⟨a2, cap2, rfl, R2, B2⟩
end
end Go.Proofs.Ytjnnohajmblfkaa
