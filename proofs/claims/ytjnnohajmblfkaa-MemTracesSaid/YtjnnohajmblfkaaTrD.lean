/- Contracts of a trace's Row, of plain memories, and of Replay. -/
import Derived.Test.YtjnnohajmblfkaaTrC
namespace Go.Proofs.Ytjnnohajmblfkaa
open Go.RowKit

/-- A row that is handed back: nil, or one in memory of its own. -/
def Rowed (xs : List AccV) (w : World) (e : Ending) (w' : World) : Prop := ∃ v, e = .returned v ∧ RowA w' w.heap.size v xs ∧ Below w.heap.size w w'

set_option maxHeartbeats 1000000 in
theorem cloneA_any {base : Nat} {v : Value} {xs : List AccV} (w : World) (R : RowA w base v xs) (hl : xs.length ≤ 1000000) :
    Calls Try.prog 23 #[v] w (Rowed xs w) := by
  obtain ⟨i0, hi0, hz0, hz1, hz2⟩ := info_parts info_acc
  have hnil : ∀ (w : World) (a : Option Addr) (n c n' c' : Nat), (binOp .eql 30 (.slice a n c) (.slice none n' c')).run Try.prog w = .ok (.bool a.isNone) w := fun w a n c n' c' => Lib.run_eql_slice_nil w _ _ a n c n' c' Try.underlying30
  have HR := Lib.hid R
  rcases R.shape with ⟨rfl, rfl⟩ | ⟨g, cap, cs, rfl, hg, hb, h1, h2, hcs⟩
  · clear R
    go_enter Try.func23, Try.ntmps23
    go_wp2_with fail
    go_ret
    exact ⟨_, rfl, RowA.nil _ _, Below.refl _ _⟩
  · clear R
    have HC := Lib.hid hcs; clear hcs
    have HB := Lib.hid hb; clear hb
    go_enter Try.func23, Try.ntmps23
    go_wp2_with (at_builtin
                 refine wpList_append_own_at _ rfl _ _ 30 rfl w.heap.size 37 i0 _ 3 24 Try.underlying30 hi0 hz0 hz1 hz2 rfl (by omega) _ 0 [] rfl
                   (World.ownsRow_made w #[] 0 (Nat.le_refl _) (Nat.zero_le _) rfl) ⟨g, 0, none⟩ xs.length cap (flat xs) rfl (flat_length xs) ?c1 (flat_one_cell xs) (by simp only [maxLen]; omega) (by omega) (by simp) ?_)
    case c1 =>
      exact fun j u hu => (HR.out.alloc _).cells rfl j u hu
    intro v' w1 hown hgrow _ _
    go_wp2_with fail
    go_ret
    have hb : Below w.heap.size w w1 := ((Below.refl _ w).alloc (Nat.le_refl _) _).grown hgrow (by simp) (by intro k hk; simp [Value.ownBlock] at hk; omega)
    refine ⟨v', rfl, ?_, hb⟩
    unfold RowA
    simpa using hown

section
variable {base t p g n cap k : Nat} {c f : Nat → Int} {v : Value} {xs : List AccV} {w : World}
theorem row_any (T : Tr w base t p g n cap c f v xs) (hl : xs.length ≤ 1000000) :
    Calls Try.prog 13 #[.pointer (some ⟨t, 0, none⟩)] w (Rowed xs w) := by
  have h1 := T.c1
  have HT := Lib.hid T; clear T
  rcases HT.out.row.shape with ⟨rfl, _⟩ | ⟨g, cap, cs, rfl, _⟩
  · go_enter Try.func13, Try.ntmps13
    go_wp2_with fail
    refine (cloneA_any _ HT.out.row hl).mono ?_; rintro e w1 ⟨v', rfl, R1, B1⟩
    go_wp2_with fail
    go_ret
    exact ⟨v', rfl, R1, B1⟩
  · go_enter Try.func13, Try.ntmps13
    go_wp2_with fail
    refine (cloneA_any _ HT.out.row hl).mono ?_; rintro e w1 ⟨v', rfl, R1, B1⟩
    go_wp2_with fail
    go_ret
    exact ⟨v', rfl, R1, B1⟩

/-- A plain memory's value. -/
def plainV (p : Nat) : Value := .agg #[.pointer (some ⟨p, 0, none⟩)]

theorem of_any (p : Nat) (w : World) : Calls Try.prog 17 #[.pointer (some ⟨p, 0, none⟩)] w fun e w' => e = .returned (plainV p) ∧ Below w.heap.size w w' := by
  unfold plainV
  go_enter Try.func17, Try.ntmps17
  go_wp2_with fail
  exact bodyPost_ret (v := .agg #[.pointer (some ⟨p, 0, none⟩)]) (by simp [results, Try.results17, go_sem]) rfl ⟨rfl, (Below.refl _ _).alloc (Nat.le_refl _) _⟩

/-- An access of a plain memory. -/
def PStep (p g n cap m : Nat) (r : Value) (f' : Nat → Int) (w : World) (e : Ending) (w' : World) : Prop := ∃ c', e = .returned r ∧ Ar w' p g n cap c' f' ∧ CB c' m ∧ Only p g w w'

theorem pload_st (A : Ar w p g n cap c f) (i : Int) {m : Nat} (hm : CB c m) (hb : m ≤ 1000000) :
    Calls Try.prog 19 #[plainV p, .int .i64 i] w (PStep p g n cap (m + 1) (.int .u64 (readN n f i)) f w) := by
  unfold plainV
  have HA := Lib.hid A; clear A
  have HM := Lib.hid hm; clear hm
  by_cases h : 0 ≤ i ∧ i < n
  · obtain ⟨k, rfl⟩ := Int.eq_ofNat_of_zero_le h.1
    have e2 : readN n f (k : Int) = f k := by simp [readN, h]
    have hk : k < n := by omega
    rw [e2]; clear e2 h
    go_enter Try.func19, Try.ntmps19
    go_wp2_with fail
    refine (load_yes (HA.out.alloc _) hk HM.out hb).mono ?_; rintro e w1 ⟨rfl, A1, O1⟩
    go_wp2_with fail
    go_ret
    exact ⟨_, rfl, A1, HM.out.upd 0, ((Only.refl _ _ _).alloc _).trans O1⟩
  · have e2 : readN n f i = 0 := by simp [readN, h]
    have hi : i < 0 ∨ (n : Int) ≤ i := by omega
    rw [e2]; clear e2 h
    have HI := Lib.hid hi; clear hi
    go_enter Try.func19, Try.ntmps19
    go_wp2_with fail
    refine (load_no (HA.out.alloc _) HI.out).mono ?_; rintro e w1 ⟨rfl, rfl⟩
    go_wp2_with fail
    go_ret
    exact ⟨_, rfl, HA.out.alloc _, HM.out.more (by omega), (Only.refl _ _ _).alloc _⟩

theorem pstore_st (A : Ar w p g n cap c f) {o : AccV} (hs : o.s = true) (hf : o.fit) {m : Nat} (hm : CB c m) (hb : m ≤ 1000000) :
    Calls Try.prog 64 #[plainV p, .int .i64 o.c, .int .u64 o.v] w (PStep p g n cap (m + 1) (.tuple #[]) (stepF n f o) w) := by
  unfold plainV
  obtain ⟨s, i, x⟩ := o
  simp only at hs
  subst hs
  have HA := Lib.hid A; clear A
  have HM := Lib.hid hm; clear hm
  by_cases h : 0 ≤ i ∧ i < n
  · obtain ⟨k, rfl⟩ := Int.eq_ofNat_of_zero_le h.1
    have e2 : stepF n f ⟨true, (k : Int), x⟩ = upd f k x := by simp [stepF, h]
    have hk : k < n := by omega
    have hf1 : 0 ≤ x := hf.2.1
    have hf2 : x ≤ 18446744073709551615 := hf.2.2
    rw [e2]; clear e2 h hf
    go_enter Try.func64, Try.ntmps64
    go_wp2_with fail
    refine (store_yes (HA.out.alloc _) hk hf1 hf2 HM.out hb).mono ?_; rintro e w1 ⟨rfl, A1, O1⟩
    go_wp2_with fail
    go_end0
    exact ⟨_, rfl, A1, HM.out.upd 1, ((Only.refl _ _ _).alloc _).trans O1⟩
  · have e2 : stepF n f ⟨true, i, x⟩ = f := by simp [stepF, h]
    have hi : i < 0 ∨ (n : Int) ≤ i := by omega
    rw [e2]; clear e2 h hf
    have HI := Lib.hid hi; clear hi
    go_enter Try.func64, Try.ntmps64
    go_wp2_with fail
    refine (store_no (HA.out.alloc _) HI.out x).mono ?_; rintro e w1 ⟨rfl, rfl⟩
    go_wp2_with fail
    go_end0
    exact ⟨_, rfl, HA.out.alloc _, HM.out.more (by omega), (Only.refl _ _ _).alloc _⟩
end
end Go.Proofs.Ytjnnohajmblfkaa
