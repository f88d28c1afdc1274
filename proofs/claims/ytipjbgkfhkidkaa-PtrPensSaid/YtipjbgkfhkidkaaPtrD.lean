/- Contracts of what a pen writes and cleans. -/
import Derived.Test.YtipjbgkfhkidkaaPtrC
namespace Go.Proofs.Ytipjbgkfhkidkaa
open Go.RowKit

set_option maxRecDepth 100000

/-- A pen's value. -/
abbrev vP (th tg : Int) : Value := .agg #[.int .i64 th, .int .i64 tg]
/-- What Old is behind a pen's write. -/
def wrO (o x th0 tg0 th tg : Int) : Int := if th0 = th ∧ tg0 = tg then o else x

theorem Blk.ne_p {w : World} {p g n cap q : Nat} {c f : Nat → Int} {ty : TypeId} {cs : Array Value} (h : Blk w q ty cs) (A : Ar w p g n cap c f) (h1 : ty ≠ 88) : q ≠ p := h.ne_ A.own h1
theorem Blk.ne_g {w : World} {p g n cap q : Nat} {c f : Nat → Int} {ty : TypeId} {cs : Array Value} (h : Blk w q ty cs) (A : Ar w p g n cap c f) (h1 : ty ≠ 37) : q ≠ g := by
  obtain ⟨zs, hz, _⟩ := A.cells
  exact h.ne_ hz h1
theorem Blk.arena {w w' : World} {p g n cap q : Nat} {c f : Nat → Int} {ty : TypeId} {cs : Array Value} (h : Blk w q ty cs) (A : Ar w p g n cap c f) (ho : Only p g w w') (h1 : ty ≠ 88) (h2 : ty ≠ 37) : Blk w' q ty cs := h.only ho (h.ne_p A h1) (h.ne_g A h2)
theorem Blk.later {w w' : World} {q : Nat} {ty : TypeId} {cs : Array Value} (h : Blk w q ty cs) (hb : Below w.heap.size w w') : Blk w' q ty cs := h.below hb h.lt

section
variable {w : World} {p g n cap k m t pb xb : Nat} {c f : Nat → Int} {o x th0 tg0 th tg V T y : Int} {S : Nat}

theorem writeC (hP : Blk w pb 41 #[.int .i64 th, .int .i64 tg]) (hX : Blk w xb 3 #[.int .i64 y]) :
    Calls Try.prog 41 #[vW o x th0 tg0, .pointer (some ⟨pb, 0, none⟩), .pointer (some ⟨xb, 0, none⟩)] w fun e w' => e = .returned (vW (wrO o x th0 tg0 th tg) y th tg) ∧ Below w.heap.size w w' := by
  have p0 := hP.cell 0
  have p1 := hP.cell 1
  have x0 := hX.cell 0
  have pl := hP.lt
  have xl := hX.lt
  clear hP hX
  by_cases h1 : th0 = th
  · subst h1
    by_cases h2 : tg0 = tg
    · subst h2
      have hr : wrO o x th0 tg0 th0 tg0 = o := if_pos ⟨rfl, rfl⟩
      rw [hr]; clear hr
      go_enter Try.func41, Try.ntmps41
      go_wp2_with fail
      exact bodyPost_ret (v := vW o y th0 tg0) (by simp [results, Try.results41, go_sem]) rfl ⟨rfl, ((Below.refl _ _).alloc (Nat.le_refl _) _).alloc (by simp) _⟩
    · have hr : wrO o x th0 tg0 th0 tg = x := if_neg fun e => h2 e.2
      rw [hr]; clear hr
      go_enter Try.func41, Try.ntmps41
      go_wp2_with fail
      exact bodyPost_ret (v := vW x y th0 tg) (by simp [results, Try.results41, go_sem]) rfl ⟨rfl, ((Below.refl _ _).alloc (Nat.le_refl _) _).alloc (by simp) _⟩
  · have hr : wrO o x th0 tg0 th tg = x := if_neg fun e => h1 e.1
    rw [hr]; clear hr
    go_enter Try.func41, Try.ntmps41
    go_wp2_with fail
    exact bodyPost_ret (v := vW x y th tg) (by simp [results, Try.results41, go_sem]) rfl ⟨rfl, ((Below.refl _ _).alloc (Nat.le_refl _) _).alloc (by simp) _⟩
theorem cleanC : 
    Calls Try.prog 42 #[vW o x th0 tg0] w fun e w' => e = .returned (vW (cutI x) (cutI x) 0 0) ∧ Below w.heap.size w w' := by
  go_enter Try.func42, Try.ntmps42
  go_wp2_with fail
  refine (of_any x _).mono ?_; rintro e w1 ⟨rfl, hb1⟩
  have B1 : Blk w1 (w.heap.size + 1) 94 #[.int .i64 0, .int .i64 0, .int .i64 0, .int .i64 0] := (new_next w _ _ _ _).below hb1 (by simp)
  have hl := B1.lt
  have hp := B1.frozen
  have d0 := B1.cell 0
  have d1 := B1.cell 1
  have d2 := B1.cell 2
  have d3 := B1.cell 3
  have f0 := hp 0
  have f1 := hp 1
  have f2 := hp 2
  have f3 := hp 3
  clear hp
  have HB := Lib.hid B1
  have B0 := Lib.hid (keepL (((Below.refl w.heap.size w).alloc (Nat.le_refl _) _).alloc (by simp) _) hb1)
  clear hb1 B1
  go_wp2_with fail
  obtain ⟨b0, b1, b2, b3⟩ := (HB.out.four (.int .i64 (cutI x)) (.int .i64 (cutI x)) (.int .i64 0) (.int .i64 0)).cells4
  exact bodyPost_ret (v := vW (cutI x) (cutI x) 0 0) (by simp [results, Try.results42, go_sem, b0, b1, b2, b3]) rfl ⟨rfl, (((B0.out.setCell (by simp) _).setCell (by simp) _).setCell (by simp) _).setCell (by simp) _⟩

theorem unpack_is {v : Int} (h : IsW v o x th tg) (hv : rightV v = true) :
    Calls Try.prog 52 #[.int .u64 v] w fun e w' => e = .returned (.tuple #[vW o x th tg, .int .i64 0]) ∧ Below w.heap.size w w' := by
  have e := h.bits hv
  have hR := h.right
  clear h hv
  subst e
  exact unpack_w o x th tg w hR

set_option maxHeartbeats 1000000 in
theorem change_write (hP : Blk w pb 41 #[.int .i64 th, .int .i64 tg]) (hX : Blk w xb 3 #[.int .i64 y]) (A : Ar w p g n cap c f) (hk : k < n) (hI : IsW (f k) o x th0 tg0) (hv : rightV (f k) = true) (hr : rightW (wrO o x th0 tg0 th tg) y th tg = true) (hm : CB c m) (hb : m ≤ 999990) :
    Calls Try.prog 40 #[.iface 28 (pmV p), .int .i64 (k : Int), .func (.func 41) #[] #[.pointer (some ⟨pb, 0, none⟩), .pointer (some ⟨xb, 0, none⟩)]] w fun e w' =>
      e = .returned (.tuple #[]) ∧ Ar w' p g n cap (upd (upd c 0 (c 0 + 1)) 1 (upd c 0 (c 0 + 1) 1 + 1)) (upd f k (bitsW (wrO o x th0 tg0 th tg) y th tg)) ∧ Only p g w w' := by
  have ml := methp_load
  have nl := nilp_load
  have ms := methp_store
  have ns := nilp_store
  obtain ⟨bd0, bd1, _⟩ := bitsW_parts hr
  have HA := Lib.hid A
  have HM := Lib.hid hm
  have HI := Lib.hid hI
  have HV := Lib.hid hv
  have HR := Lib.hid hr
  have HP := Lib.hid hP
  have HX := Lib.hid hX
  clear A hm hI hv hr hP hX
  go_enter Try.func40, Try.ntmps40
  go_wp2_with fail
  refine (pm_load HA.out hk HM.out (by omega)).mono ?_; rintro e w1 ⟨rfl, A1, O1⟩
  have HP1 := Lib.hid (HP.out.arena HA.out O1 (by decide) (by decide))
  have HX1 := Lib.hid (HX.out.arena HA.out O1 (by decide) (by decide))
  have HA1 := Lib.hid A1
  have HO1 := Lib.hid O1
  clear A1 O1
  go_wp2_with fail
  refine (unpack_is HI.out HV.out).mono ?_; rintro e w2 ⟨rfl, hb2⟩
  have HP2 := Lib.hid (HP1.out.later hb2)
  have HX2 := Lib.hid (HX1.out.later hb2)
  have HA2 := Lib.hid (HA1.out.below hb2 (Nat.le_refl _))
  have HO2 := Lib.hid (HO1.out.trans (Only.of_below hb2))
  clear hb2
  go_wp2_with fail
  refine (writeC (HP2.out.alloc _) (HX2.out.alloc _)).mono ?_; rintro e w3 ⟨rfl, hb3⟩
  have HA3 := Lib.hid ((HA2.out.alloc _).below hb3 (Nat.le_refl _))
  have HO3 := Lib.hid ((HO2.out.alloc _).trans (Only.of_below hb3))
  clear hb3
  go_wp2_with fail
  refine (pack_w _ _ _ _ _ HR.out).mono ?_; rintro e w4 ⟨rfl, hb4⟩
  have HA4 := Lib.hid (HA3.out.below hb4 (Nat.le_refl _))
  have HO4 := Lib.hid (HO3.out.trans (Only.of_below hb4))
  clear hb4
  go_wp2_with fail
  refine (pm_store HA4.out hk bd0 bd1 (HM.out.upd 0) (by omega)).mono ?_; rintro e w5 ⟨rfl, A5, O5⟩
  go_wp2_with fail
  go_end0
  exact ⟨rfl, A5, HO4.out.trans O5⟩
end
end Go.Proofs.Ytipjbgkfhkidkaa
