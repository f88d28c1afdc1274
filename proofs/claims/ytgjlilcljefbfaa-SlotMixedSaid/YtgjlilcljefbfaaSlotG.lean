/- Free slots at first: plain memories, Init, and an arena of a lay. -/
import Derived.Test.YtgjlilcljefbfaaSlotF
namespace Go.Proofs.Ytgjlilcljefbfaa
open Go.RowKit

set_option maxRecDepth 100000

theorem methp_store (k : Nat) (v : Value) (W : World) : Sem.run Try.prog (method (k + 1) 31 v "Store") W = .ok (67, v) W := by kernel_rfl
theorem methp_load (k : Nat) (v : Value) (W : World) : Sem.run Try.prog (method (k + 1) 31 v "Load") W = .ok (66, v) W := by kernel_rfl

theorem nilp_store (k : Nat) (v : Value) (W : World) : Sem.run Try.prog (nilAhead (k + 1) 31 v "Store") W = .ok (some false) W := by kernel_rfl
theorem nilp_load (k : Nat) (v : Value) (W : World) : Sem.run Try.prog (nilAhead (k + 1) 31 v "Load") W = .ok (some false) W := by kernel_rfl

/-- A plain memory's value. -/
def pmV (p : Nat) : Value := .agg #[.pointer (some ⟨p, 0, none⟩)]
theorem pm_of (p : Nat) (w : World) : Calls Try.prog 11 #[.pointer (some ⟨p, 0, none⟩)] w fun e w' => e = .returned (pmV p) ∧ Below w.heap.size w w' := by
  unfold pmV
  go_enter Try.func11, Try.ntmps11
  go_wp2_with fail
  exact bodyPost_ret (v := .agg #[.pointer (some ⟨p, 0, none⟩)]) (by simp [results, Try.results11, go_sem]) rfl ⟨rfl, (Below.refl _ _).alloc (Nat.le_refl _) _⟩

section
variable {w : World} {p g n cap k m : Nat} {c f : Nat → Int}
theorem pm_load (A : Ar w p g n cap c f) (hk : k < n) (hm : CB c m) (hb : m ≤ 1000000) :
    Calls Try.prog 66 #[pmV p, .int .i64 (k : Int)] w fun e w' => e = .returned (.int .u64 (f k)) ∧ Ar w' p g n cap (upd c 0 (c 0 + 1)) f ∧ Only p g w w' := by
  unfold pmV
  have HA := Lib.hid A; clear A
  have HM := Lib.hid hm; clear hm
  go_enter Try.func66, Try.ntmps66
  go_wp2_with fail
  refine (load_yes (HA.out.alloc _) hk HM.out hb).mono ?_; rintro e w1 ⟨rfl, A1, O1⟩
  go_wp2_with fail
  go_ret
  exact ⟨rfl, A1, ((Only.refl _ _ _).alloc _).trans O1⟩
theorem pm_store (A : Ar w p g n cap c f) (hk : k < n) {x : Int} (hx0 : 0 ≤ x) (hx1 : x ≤ 18446744073709551615) (hm : CB c m) (hb : m ≤ 1000000) :
    Calls Try.prog 67 #[pmV p, .int .i64 (k : Int), .int .u64 x] w fun e w' => e = .returned (.tuple #[]) ∧ Ar w' p g n cap (upd c 1 (c 1 + 1)) (upd f k x) ∧ Only p g w w' := by
  unfold pmV
  have HA := Lib.hid A; clear A
  have HM := Lib.hid hm; clear hm
  go_enter Try.func67, Try.ntmps67
  go_wp2_with fail
  refine (store_yes (HA.out.alloc _) hk hx0 hx1 HM.out hb).mono ?_; rintro e w1 ⟨rfl, A1, O1⟩
  go_wp2_with fail
  go_end0
  exact ⟨rfl, A1, ((Only.refl _ _ _).alloc _).trans O1⟩
end

/-- A lay in a block of its own. -/
def LyB (w : World) (b : Nat) (V : Int) (S : Nat) (T : Int) : Prop := Blk w b 24 #[.int .i64 V, .int .i64 S, .int .i64 T]
section
variable {w w' : World} {b p g n cap : Nat} {V T : Int} {S : Nat} {c f : Nat → Int}
theorem LyB.below (h : LyB w b V S T) (hb : Below w.heap.size w w') : LyB w' b V S T := Blk.below h hb (Blk.lt h)
theorem LyB.drew (h : LyB w b V S T) : LyB w.drew b V S T := h
theorem LyB.ne_p (h : LyB w b V S T) (A : Ar w p g n cap c f) : b ≠ p := Blk.ne_ h A.own (by decide)
theorem LyB.ne_g (h : LyB w b V S T) (A : Ar w p g n cap c f) : b ≠ g := by
  obtain ⟨zs, hz, _⟩ := A.cells
  exact Blk.ne_ h hz (by decide)
theorem LyB.only (h : LyB w b V S T) (A : Ar w p g n cap c f) (ho : Only p g w w') : LyB w' b V S T := Blk.only h ho (h.ne_p A) (h.ne_g A)
theorem LyB.cells (h : LyB w b V S T) : w.cell? ⟨b, 0, none⟩ = some (.int .i64 V) ∧ w.cell? ⟨b, 1, none⟩ = some (.int .i64 S) ∧ w.cell? ⟨b, 2, none⟩ = some (.int .i64 T) := ⟨Blk.cell h 0, Blk.cell h 1, Blk.cell h 2⟩
theorem LyB.lt (h : LyB w b V S T) : b < w.heap.size := Blk.lt h
end

theorem lnF_bd (S : Nat) (s : Int) (h : S ≤ 48) : 0 ≤ lnF S s ∧ lnF S s ≤ 18446744073709551615 := by unfold lnF; split <;> omega

/-- What Init has done of all slots below i; the counts of swaps stay. -/
def IniRel (b p g n cap t S m : Nat) (V : Int) (c f : Nat → Int) (w0 : World) (i : Nat) (w : World) : Prop :=
  ∃ c' f' : Nat → Int, Ar w p g n cap c' f' ∧ CB c' (m + 1 + i) ∧ c' 2 = c 2 ∧ c' 3 = c 3 ∧ f' t = lnF S 0 ∧ (∀ s, s < i → f' (t + 1 + s * 7) = lnF S ((s : Int) + 1)) ∧
    (∀ k, k ≠ t → (∀ s, s < i → k ≠ t + 1 + s * 7) → f' k = f k) ∧ LyB w b V S t ∧ Only p g w0 w

set_option maxHeartbeats 2000000 in
theorem init_any {w : World} {p g n cap t S m : Nat} {V T : Int} {c f : Nat → Int} (hR : Rt V S T) (ht : T = (t : Int)) (A : Ar w p g n cap c f) (hn : t < n) (hn2 : ∀ s, s < S → t + 1 + s * 7 < n) (hm : CB c m) (hb : m ≤ 100000) :
    Calls Try.prog 26 #[.iface 31 (pmV p), vL V S T] w fun e w' => e = .returned (.tuple #[]) ∧ ∃ b, IniRel b p g n cap t S m V c f w S w' := by
  subst ht
  have ms := methp_store
  have mn := nilp_store
  have s2 := hR.s2
  have n3 : (n : Int) ≤ 16384 := by have := A.few; omega
  have HR := Lib.hid hR
  have HY := Lib.hid hR.yes
  have HA := Lib.hid A
  have HM := Lib.hid hm
  have HN := Lib.hid hn2
  clear hR A hm hn2
  go_enter Try.func26, Try.ntmps26
  go_wp2_with fail
  have hlb : ∀ W : World, LyB W w.heap.size V S t → W.cell? ⟨w.heap.size, 0, none⟩ = some (.int .i64 V) ∧ W.cell? ⟨w.heap.size, 1, none⟩ = some (.int .i64 S) ∧ W.cell? ⟨w.heap.size, 2, none⟩ = some (.int .i64 (t : Int)) := fun W h => h.cells
  have HL0 : Hid (LyB (w.alloc (.cells #[.int .i64 V, .int .i64 S, .int .i64 (t : Int)] 24)) w.heap.size V S t) := Lib.hid (Blk.new _ _ _)
  have HA0 := Lib.hid (HA.out.alloc (.cells #[.int .i64 V, .int .i64 S, .int .i64 (t : Int)] 24))
  have HO0 := Lib.hid ((Only.refl p g w).alloc (.cells #[.int .i64 V, .int .i64 S, .int .i64 (t : Int)] 24))
  refine (right_any _ _ _ _).mono ?_; rintro e w1 ⟨rfl, hb1⟩; rw [HY.out]
  have HL1 := Lib.hid (HL0.out.below hb1)
  have HA1 := Lib.hid (HA0.out.below hb1 (Nat.le_refl _))
  have HO1 := Lib.hid (HO0.out.trans (Only.of_below hb1))
  clear hb1 HA HL0 HA0 HO0
  go_wp2_with fail
  have hbp : w.heap.size ≠ p := HL1.out.ne_p HA1.out
  have hbg : w.heap.size ≠ g := HL1.out.ne_g HA1.out
  generalize hwb : w.heap.size = b at HL1 hbp hbg hlb ⊢
  obtain ⟨y0, y1, y2⟩ := HL1.out.cells
  have hlt := HL1.out.lt
  have v0 := (lnF_bd S 0 (by omega)).1
  have v1 := (lnF_bd S 0 (by omega)).2
  have HLd := Lib.hid HL1.out.drew
  have HAd := Lib.hid HA1.out.drew
  have HOd := Lib.hid HO1.out.drew
  go_region_held3 (fun W => LyB W b V S t) (first | (with_reducible assumption) | (with_reducible exact HLd.out) | (with_reducible exact LyB.below (by assumption) hb1) | (with_reducible exact LyB.only (by assumption) (Hid.out (by assumption : Hid (Ar _ p g n cap c f))) O2))
    (first
      | (go_at_call 29; ((with_reducible refine (free_yes V S t HR.out _).mono ?_); rintro e w' ⟨rfl, hb1⟩; have HA' := Lib.hid (Ar.below (Hid.out (by assumption : Hid (Ar _ p g n cap c f))) hb1 (Nat.le_refl _)); have HO' := Lib.hid (Only.trans (Hid.out (by assumption : Hid (Only p g w _))) (Only.of_below hb1))))
      | (go_at_call 31; ((with_reducible refine (link_any HR.out (by omega) (by omega) _).mono ?_); rintro e w' ⟨rfl, hb1⟩; have HA' := Lib.hid (Ar.below (Hid.out (by assumption : Hid (Ar _ p g n cap c f))) hb1 (Nat.le_refl _)); have HO' := Lib.hid (Only.trans (Hid.out (by assumption : Hid (Only p g w _))) (Only.of_below hb1))))
      | ((with_reducible refine (pm_store (Hid.out (by assumption : Hid (Ar _ p g n cap c f))) hn v0 v1 HM.out (by omega)).mono ?_); rintro e w2 ⟨rfl, A2, O2⟩; have HL2 := Lib.hid (LyB.only (by assumption) (Hid.out (by assumption : Hid (Ar _ p g n cap c f))) O2); have HO2 := Lib.hid (Only.trans (Hid.out (by assumption : Hid (Only p g w _))) O2)))
  all_goals
    have HA2 := Lib.hid A2
    clear A2 O2
    obtain ⟨y0, y1, y2⟩ := HL2.out.cells
    have hlt2 := HL2.out.lt
    have hRel : Hid (IniRel b p g n cap t S m V c f w 0 w2) := Lib.hid ⟨_, _, HA2.out, (HM.out.upd 1).more (by omega), upd_other _ _ (by omega), upd_other _ _ (by omega), upd_same _ _ _, fun s hs => absurd hs (Nat.not_lt_zero _), fun k hk _ => upd_other _ _ hk, HL2.out, HO2.out⟩
    clear HA1 HO1 HL1 HAd HOd HLd HA' HO' HL2 HO2 HA2
    go_wp2_with fail
    go_loopw [19] (fun i wr => ∃ k : Nat, k ≤ S ∧ i = .int .i64 (k : Int) ∧ IniRel b p g n cap t S m V c f w k wr) (fun i _ => S - (intOf i).toNat)
    case atStart => exact ⟨0, Nat.zero_le _, rfl, hRel.out⟩
    case round =>
      clear hRel y0 y1 y2 hlt2
      obtain ⟨k, hk, rfl, c1, f1, A, m1, c2, c3, fh, fs, fo, L, O⟩ := hrel
      by_cases hlt : k < S
      · have HA1 := Lib.hid A
        have HM1 := Lib.hid m1
        have HL1 := Lib.hid L
        have HO1 := Lib.hid O
        have HF := Lib.hid (And.intro c2 (And.intro c3 (And.intro fh (And.intro fs fo))))
        clear A m1 L O c2 c3 fh fs fo
        obtain ⟨y0, y1, y2⟩ := HL1.out.cells
        have hltb := HL1.out.lt
        have v0 := (lnF_bd S ((k : Int) + 1) (by omega)).1
        have v1 := (lnF_bd S ((k : Int) + 1) (by omega)).2
        have s3 : -1000000 ≤ (k : Int) + 1 := by omega
        have s4 : (k : Int) + 1 ≤ 1000000 := by omega
        have wrk : IntKind.i64.wrap ((k : Int) + 1) = (k : Int) + 1 := IntWalk.i64_in _ (by omega)
        obtain ⟨j, hj⟩ : ∃ j : Nat, j = t + 1 + k * 7 := ⟨_, rfl⟩
        have hjn : j < n := by rw [hj]; exact HN.out k hlt
        have e2 : slotF S (t : Int) (k : Int) 0 = (j : Int) := by rw [slotF_in (by omega) (by omega) (by omega) (by omega)]; omega
        have HE2 := Lib.hid e2
        have HJ := Lib.hid hj
        clear e2 hj
        go_wp2_with fail
        have HLd := Lib.hid HL1.out.drew
        have HAd := Lib.hid HA1.out.drew
        have HOd := Lib.hid HO1.out.drew
        go_region_held3 (fun W => LyB W b V S t) (first | (with_reducible assumption) | (with_reducible exact HLd.out) | (with_reducible exact LyB.below (by assumption) hb1) | (with_reducible exact LyB.only (by assumption) (Hid.out (by assumption : Hid (Ar _ p g n cap c1 f1))) O2))
          (first
            | (go_at_call 30; ((with_reducible refine (nextFree_yes V S t (k : Int) HR.out _).mono ?_); rintro e w' ⟨rfl, hb1⟩; rw [HE2.out]; have HA' := Lib.hid (Ar.below (Hid.out (by assumption : Hid (Ar _ p g n cap c1 f1))) hb1 (Nat.le_refl _)); have HO' := Lib.hid (Only.trans (Hid.out (by assumption : Hid (Only p g w _))) (Only.of_below hb1))))
            | (go_at_call 31; ((with_reducible refine (link_any HR.out s3 s4 _).mono ?_); rintro e w' ⟨rfl, hb1⟩; have HA' := Lib.hid (Ar.below (Hid.out (by assumption : Hid (Ar _ p g n cap c1 f1))) hb1 (Nat.le_refl _)); have HO' := Lib.hid (Only.trans (Hid.out (by assumption : Hid (Only p g w _))) (Only.of_below hb1))))
            | ((with_reducible refine (pm_store (Hid.out (by assumption : Hid (Ar _ p g n cap c1 f1))) hjn v0 v1 HM1.out (by omega)).mono ?_); rintro e w2 ⟨rfl, A2, O2⟩; have HL2 := Lib.hid (LyB.only (by assumption) (Hid.out (by assumption : Hid (Ar _ p g n cap c1 f1))) O2); have HO2 := Lib.hid (Only.trans (Hid.out (by assumption : Hid (Only p g w _))) O2)))
        all_goals
          have hRel : Hid (IniRel b p g n cap t S m V c f w (k + 1) w2) := by
            obtain ⟨q2, q3, qh, qs, qo⟩ := HF.out
            have hj := HJ.out
            refine Lib.hid ⟨_, _, A2, (HM1.out.upd 1).more (by omega), (upd_other _ _ (by omega)).trans q2, (upd_other _ _ (by omega)).trans q3, (upd_other _ _ (by omega)).trans qh, fun s hs => ?_, fun i hi hi2 => ?_, HL2.out, HO2.out⟩
            · by_cases e : s = k
              · subst e; rw [← hj, upd_same]
              · rw [upd_other _ _ (by omega)]; exact qs s (by omega)
            · rw [upd_other _ _ (by have := hi2 k (by omega); omega)]
              exact qo i hi fun s hs => hi2 s (by omega)
          clear A2 O2 HL2 HO2 HA' HO' HAd HOd HLd HA1 HO1 HL1 HF HM1 y0 y1 y2
          go_wp2_with fail
          go_round
          case rel => exact ⟨k + 1, by omega, by go_num, hRel.out⟩
          case measure => simp [intOf]; omega
      · have e : k = S := by omega
        subst e
        obtain ⟨y0, y1, y2⟩ := L.cells
        have hltb := L.lt
        have HF := Lib.hid (show IniRel b p g n cap t k m V c f w k wr from ⟨c1, f1, A, m1, c2, c3, fh, fs, fo, L, O⟩)
        clear A m1 L O c2 c3 fh fs fo
        go_wp2_with fail
        go_end0
        exact ⟨rfl, b, HF.out⟩
end Go.Proofs.Ytgjlilcljefbfaa
