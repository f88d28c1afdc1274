/- Contracts of a trace's calls: Over, Load, Store. -/
import Derived.Test.YtjnnohajmblfkaaTrB
namespace Go.Proofs.Ytjnnohajmblfkaa
open Go.RowKit

theorem info_acc : (Try.prog.info? 37).map (fun i => (i.zero, i.size, i.bytes)) = some (some (.agg #[.bool false, .int .i64 0, .int .u64 0]), 3, 24) := by kernel_rfl

/-- What an access of a trace leaves: its answer, its numbers and its row. -/
def TStep (base t p g n cap : Nat) (v : Value) (m : Nat) (r : Value) (f' : Nat → Int) (xs' : List AccV) (w : World) (e : Ending) (w' : World) : Prop :=
  ∃ c' v', e = .returned r ∧ Tr w' base t p g n cap c' f' v' xs' ∧ CB c' m ∧ OnlyT t p g v.ownBlock w w' ∧ (v'.ownBlock = v.ownBlock ∨ ∃ i, v'.ownBlock = some i ∧ w.heap.size ≤ i)

/-- Behind the access of the arena, and the append: what is stored into the trace's own block ends it. -/
theorem Tr.appended {w w1 w2 w3 : World} {base t p g n cap : Nat} {c c1 f f1 : Nat → Int} {v v' : Value} {xs : List AccV} {x : AccV} {o : Obj} (T : Tr w base t p g n cap c f v xs) (A1 : Ar w1 p g n cap c1 f1) (O1 : Only p g w w1)
    (e3 : w3 = w1.alloc o) (hown : w2.ownsRow base 37 3 v' (xs.length + 1) (flat xs ++ x.cells)) (hgrow : w3.grownBy w2 v.ownBlock) (hat : v'.ownBlock = v.ownBlock ∨ v'.ownBlock = some (w1.heap.size + 1)) :
    (∃ g' cap', v' = .slice (some ⟨g', 0, none⟩) (xs.length + 1) cap') ∧ Blk w2 t 63 #[.pointer (some ⟨p, 0, none⟩), v] ∧ Tr (w2.setCell ⟨t, 1, none⟩ v') base t p g n cap c1 f1 v' (xs ++ [x]) ∧ OnlyT t p g v.ownBlock w (w2.setCell ⟨t, 1, none⟩ v') ∧ (v'.ownBlock = v.ownBlock ∨ ∃ i, v'.ownBlock = some i ∧ w.heap.size ≤ i) := by
  subst e3
  have hs : w.heap.size ≤ w1.heap.size := O1.size
  have own1 : Blk w1 t 63 #[.pointer (some ⟨p, 0, none⟩), v] := T.own.only O1 T.t_ne_p T.t_ne_g
  have O3 : OnlyT t p g v.ownBlock w (w1.alloc o) := (OnlyT.of_only O1).alloc o
  have O2 : OnlyT t p g v.ownBlock w w2 := O3.trans (OnlyT.of_grown hgrow)
  have own3 := own1.alloc o
  have own2 : Blk w2 t 63 #[.pointer (some ⟨p, 0, none⟩), v] := (hgrow.block t own3.lt T.t_ne_r).trans own3
  have A2 : Ar w2 p g n cap c1 f1 := by
    have A3 := A1.alloc o
    obtain ⟨zs, hz, he⟩ := A3.cells
    exact ⟨(hgrow.block p A3.p_lt T.p_ne_r).trans A3.own, ⟨zs, (hgrow.block g A3.g_lt T.g_ne_r).trans hz, he⟩, A3.le, A3.few, A3.fit⟩
  have R2 : RowA w2 base v' (xs ++ [x]) := by
    unfold RowA
    rw [List.length_append, List.length_singleton, flat_append, flat_one]
    exact hown
  have hsh : ∃ g' cap', v' = .slice (some ⟨g', 0, none⟩) (xs.length + 1) cap' := by
    rcases hown.2 with ⟨_, h⟩ | ⟨g', cap', _, h, _⟩
    · omega
    · exact ⟨g', cap', h⟩
  refine ⟨hsh, own2, ⟨?_, ?_, ?_, T.pb, T.gb, T.tb⟩, O2.set_t v', ?_⟩
  · have := own2.set_ 1 v'
    simpa using this
  · obtain ⟨zs, hz, he⟩ := A2.cells
    exact ⟨A2.own.far (fun e => T.t_ne_p e.symm) _, ⟨zs, hz.far (fun e => T.t_ne_g e.symm) _, he⟩, A2.le, A2.few, A2.fit⟩
  · refine R2.kept_of fun i hi => Below.heap_setCell w2 ⟨t, 1, none⟩ v' i ?_
    rintro rfl
    exact R2.ne_blk own2 (by decide) hi.symm
  · rcases hat with h | h
    · exact .inl h
    · exact .inr ⟨_, h, by omega⟩

theorem acc_new (w : World) (x : AccV) (ty : TypeId) : ∀ (j : Nat) u, x.cells[j]? = some u → (w.alloc (.cells #[.bool x.s, .int .i64 x.c, .int .u64 x.v] ty)).cell? ((⟨w.heap.size, 0, none⟩ : Addr).add j) = some u := by
  intro j u hu
  have h := (Blk.new w ty #[.bool x.s, .int .i64 x.c, .int .u64 x.v]).cell j
  rw [Addr.add_lit, Nat.zero_add, h]
  simpa [AccV.cells] using hu

section
variable {base t p g n cap k : Nat} {c f : Nat → Int} {v : Value} {xs : List AccV} {w : World}

set_option maxHeartbeats 2000000 in
theorem tstore_yes (T : Tr w base t p g n cap c f v xs) (hk : k < n) {x : Int} (hv0 : 0 ≤ x) (hv1 : x ≤ 18446744073709551615) {m : Nat} (hm : CB c m) (hb : m ≤ 1000000) (hl : xs.length ≤ 1000000) :
    Calls Try.prog 11 #[.pointer (some ⟨t, 0, none⟩), .int .i64 (k : Int), .int .u64 x] w (TStep base t p g n cap v (m + 1) (.tuple #[]) (upd f k x) (xs ++ [⟨true, k, x⟩]) w) := by
  obtain ⟨i0, hi0, hz0, hz1, hz2⟩ := info_parts info_acc
  have h0 := T.c0
  have HT := Lib.hid T; clear T
  have HM := Lib.hid hm; clear hm
  go_enter Try.func11, Try.ntmps11
  go_wp2_with fail
  refine (store_yes HT.out.ar hk hv0 hv1 HM.out hb).mono ?_; rintro e w1 ⟨rfl, A1, O1⟩
  have own1 : Blk w1 t 63 #[.pointer (some ⟨p, 0, none⟩), v] := HT.out.own.only O1 HT.out.t_ne_p HT.out.t_ne_g
  have h1 : w1.cell? ⟨t, 1, none⟩ = some v := own1.cell 1
  have R1 : RowA w1 base v xs := HT.out.row.kept_of fun i hi => O1.block i (HT.out.row.lt i hi).2 (fun e => HT.out.p_ne_r (e ▸ hi.symm)) (fun e => HT.out.g_ne_r (e ▸ hi.symm))
  have hbase : base ≤ w1.heap.size := Nat.le_trans (Nat.le_trans HT.out.pb (Nat.le_of_lt HT.out.ar.p_lt)) O1.size
  have HR := Lib.hid R1; clear R1
  have HO := Lib.hid own1; clear own1
  go_wp2_with (at_builtin
               refine wpList_append_own_at _ rfl _ _ 30 rfl base 37 i0 _ 3 24 Try.underlying30 hi0 hz0 hz1 hz2 rfl (by omega) v xs.length (flat xs) rfl
                 (HR.out.alloc _) ⟨w1.heap.size, 0, none⟩ 1 1 [.bool true, .int .i64 (k : Int), .int .u64 x] rfl rfl ?c1 ?c2 (by simp only [maxLen]; omega) (by omega) (by simp; omega) ?_)
  case c1 => exact acc_new w1 ⟨true, k, x⟩ _
  case c2 => intro u hu; simp at hu; rcases hu with rfl | rfl | rfl <;> rfl
  intro v' w2 hown hgrow _ hat
  obtain ⟨⟨gr, cr, rfl⟩, own2, T2, O2, hat'⟩ := HT.out.appended (x := ⟨true, k, x⟩) A1 O1 rfl hown hgrow hat
  have f2 := own2.frozen 1
  have c2 : w2.cell? ⟨t, 1, none⟩ = some v := own2.cell 1
  clear own2 hown hgrow hat A1 O1 HR HO
  go_wp2_with fail
  go_end0
  exact ⟨_, _, rfl, T2, HM.out.upd 1, O2, hat'⟩

theorem tstore_no (T : Tr w base t p g n cap c f v xs) {i : Int} (hi : i < 0 ∨ (n : Int) ≤ i) (x : Int) {m : Nat} (hm : CB c m) :
    Calls Try.prog 11 #[.pointer (some ⟨t, 0, none⟩), .int .i64 i, .int .u64 x] w (TStep base t p g n cap v (m + 1) (.tuple #[]) f xs w) := by
  have h0 := T.c0
  have HT := Lib.hid T; clear T
  have HM := Lib.hid hm; clear hm
  go_enter Try.func11, Try.ntmps11
  go_wp2_with fail
  refine (store_no HT.out.ar hi x).mono ?_; rintro e w1 ⟨rfl, rfl⟩
  go_wp2_with fail
  go_end0
  exact ⟨_, v, rfl, HT.out, HM.out.more (by omega), OnlyT.refl _, .inl rfl⟩

set_option maxHeartbeats 2000000 in
theorem tload_yes (T : Tr w base t p g n cap c f v xs) (hk : k < n) {m : Nat} (hm : CB c m) (hb : m ≤ 1000000) (hl : xs.length ≤ 1000000) :
    Calls Try.prog 12 #[.pointer (some ⟨t, 0, none⟩), .int .i64 (k : Int)] w (TStep base t p g n cap v (m + 1) (.int .u64 (f k)) f (xs ++ [⟨false, k, f k⟩]) w) := by
  obtain ⟨i0, hi0, hz0, hz1, hz2⟩ := info_parts info_acc
  have h0 := T.c0
  have HT := Lib.hid T; clear T
  have HM := Lib.hid hm; clear hm
  go_enter Try.func12, Try.ntmps12
  go_wp2_with fail
  refine (load_yes HT.out.ar hk HM.out hb).mono ?_; rintro e w1 ⟨rfl, A1, O1⟩
  have own1 : Blk w1 t 63 #[.pointer (some ⟨p, 0, none⟩), v] := HT.out.own.only O1 HT.out.t_ne_p HT.out.t_ne_g
  have h1 : w1.cell? ⟨t, 1, none⟩ = some v := own1.cell 1
  have R1 : RowA w1 base v xs := HT.out.row.kept_of fun i hi => O1.block i (HT.out.row.lt i hi).2 (fun e => HT.out.p_ne_r (e ▸ hi.symm)) (fun e => HT.out.g_ne_r (e ▸ hi.symm))
  have hbase : base ≤ w1.heap.size := Nat.le_trans (Nat.le_trans HT.out.pb (Nat.le_of_lt HT.out.ar.p_lt)) O1.size
  have HR := Lib.hid R1; clear R1
  have HO := Lib.hid own1; clear own1
  go_wp2_with (at_builtin
               refine wpList_append_own_at _ rfl _ _ 30 rfl base 37 i0 _ 3 24 Try.underlying30 hi0 hz0 hz1 hz2 rfl (by omega) v xs.length (flat xs) rfl
                 (HR.out.alloc _) ⟨w1.heap.size, 0, none⟩ 1 1 [.bool false, .int .i64 (k : Int), .int .u64 (f k)] rfl rfl ?c1 ?c2 (by simp only [maxLen]; omega) (by omega) (by simp; omega) ?_)
  case c1 => exact acc_new w1 ⟨false, k, f k⟩ _
  case c2 => intro u hu; simp at hu; rcases hu with rfl | rfl | rfl <;> rfl
  intro v' w2 hown hgrow _ hat
  obtain ⟨⟨gr, cr, rfl⟩, own2, T2, O2, hat'⟩ := HT.out.appended (x := ⟨false, k, f k⟩) A1 O1 rfl hown hgrow hat
  have f2 := own2.frozen 1
  have c2 : w2.cell? ⟨t, 1, none⟩ = some v := own2.cell 1
  clear own2 hown hgrow hat A1 O1 HR HO
  go_wp2_with fail
  go_ret
  exact ⟨_, _, rfl, T2, HM.out.upd 0, O2, hat'⟩

theorem tload_no (T : Tr w base t p g n cap c f v xs) {i : Int} (hi : i < 0 ∨ (n : Int) ≤ i) {m : Nat} (hm : CB c m) :
    Calls Try.prog 12 #[.pointer (some ⟨t, 0, none⟩), .int .i64 i] w (TStep base t p g n cap v (m + 1) (.int .u64 0) f xs w) := by
  have h0 := T.c0
  have HT := Lib.hid T; clear T
  have HM := Lib.hid hm; clear hm
  go_enter Try.func12, Try.ntmps12
  go_wp2_with fail
  refine (load_no HT.out.ar hi).mono ?_; rintro e w1 ⟨rfl, rfl⟩
  go_wp2_with fail
  go_ret
  exact ⟨_, v, rfl, HT.out, HM.out.more (by omega), OnlyT.refl _, .inl rfl⟩

/-- A store, at any address. -/
theorem tstore_st (T : Tr w base t p g n cap c f v xs) {o : AccV} (hs : o.s = true) (hf : o.fit) {m : Nat} (hm : CB c m) (hb : m ≤ 1000000) (hl : xs.length ≤ 1000000) :
    Calls Try.prog 11 #[.pointer (some ⟨t, 0, none⟩), .int .i64 o.c, .int .u64 o.v] w (TStep base t p g n cap v (m + 1) (.tuple #[]) (stT n (f, xs) o).1 (stT n (f, xs) o).2 w) := by
  obtain ⟨s, i, x⟩ := o
  simp only at hs hf
  subst hs
  by_cases h : 0 ≤ i ∧ i < n
  · obtain ⟨k, rfl⟩ := Int.eq_ofNat_of_zero_le h.1
    have e : stT n (f, xs) ⟨true, k, x⟩ = (upd f k x, xs ++ [⟨true, k, x⟩]) := by simp [stT, stepF, rowOf, h]
    rw [e]
    exact tstore_yes T (by omega) hf.2.1 hf.2.2 hm hb hl
  · have e : stT n (f, xs) ⟨true, i, x⟩ = (f, xs) := by simp [stT, stepF, rowOf, h]
    rw [e]
    exact tstore_no (i := i) T (by omega) x hm

/-- A load, at any address. -/
theorem tload_st (T : Tr w base t p g n cap c f v xs) {o : AccV} (hs : o.s = false) {m : Nat} (hm : CB c m) (hb : m ≤ 1000000) (hl : xs.length ≤ 1000000) :
    Calls Try.prog 12 #[.pointer (some ⟨t, 0, none⟩), .int .i64 o.c] w (TStep base t p g n cap v (m + 1) (.int .u64 (readN n f o.c)) (stT n (f, xs) o).1 (stT n (f, xs) o).2 w) := by
  obtain ⟨s, i, x⟩ := o
  simp only at hs
  subst hs
  by_cases h : 0 ≤ i ∧ i < n
  · obtain ⟨k, rfl⟩ := Int.eq_ofNat_of_zero_le h.1
    have e : stT n (f, xs) ⟨false, k, x⟩ = (f, xs ++ [⟨false, k, f k⟩]) := by simp [stT, stepF, rowOf, h]
    have e2 : readN n f (k : Int) = f k := by simp [readN, h]
    rw [e, e2]
    exact tload_yes T (by omega) hm hb hl
  · have e : stT n (f, xs) ⟨false, i, x⟩ = (f, xs) := by simp [stT, stepF, rowOf, h]
    have e2 : readN n f i = 0 := by simp [readN, h]
    rw [e, e2]
    exact tload_no (i := i) T (by omega) hm

/-- What a new trace is: the arena's numbers, no row. -/
def Traced (n : Nat) (c f : Nat → Int) (w : World) (e : Ending) (w' : World) : Prop :=
  ∃ t p g cap, e = .returned (.pointer (some ⟨t, 0, none⟩)) ∧ w.heap.size ≤ p ∧ w.heap.size ≤ g ∧ w.heap.size ≤ t ∧ Tr w' w.heap.size t p g n cap c f (.slice none 0 0) [] ∧ Below w.heap.size w w'

theorem over_any (A : Ar w p g n cap c f) :
    Calls Try.prog 10 #[.pointer (some ⟨p, 0, none⟩)] w (Traced n c f w) := by
  have HA := Lib.hid A; clear A
  go_enter Try.func10, Try.ntmps10
  go_wp2_with fail
  refine (copy_any HA.out).mono ?_; rintro e w1 ⟨p', g', cap', rfl, hp, hg, A1, B1⟩
  go_wp2_with fail
  go_ret
  exact ⟨_, p', g', cap', rfl, hp, hg, B1.size, ⟨Blk.new w1 _ _, A1.alloc _, RowA.nil _ _, hp, hg, B1.size⟩, B1.alloc B1.size _⟩
end
end Go.Proofs.Ytjnnohajmblfkaa
