/- Contracts of a look's steps. -/
import Derived.Test.YtipjbgkfhkidkaaPtrF
import Derived.Test.YtipjbgkfhkidkaaLayD
namespace Go.Proofs.Ytipjbgkfhkidkaa
open Go.RowKit

set_option maxRecDepth 100000

/-- What memory variable it has. -/
def MbB (w : World) (mb p : Nat) : Prop := Blk w mb 28 #[.pointer (some ⟨p, 0, none⟩)]
/-- A look's block, of which only what a list of places says is known; and a memory. -/
def LkS (q mb p : Nat) (I : Nat → Option Value) (W : World) : Prop :=
  (∃ cs : Array Value, Blk W q 100 cs ∧ cs.size = 10 ∧ ∀ j v, I j = some v → cs[j]? = some v) ∧ MbB W mb p

section
variable {w w' W : World} {q mb p g n cap k m t : Nat} {c f : Nat → Int} {a o x th tg y V T : Int} {S : Nat} {I : Nat → Option Value}
theorem MbB.later (h : MbB w mb p) (hb : Below w.heap.size w w') : MbB w' mb p := Blk.later h hb
theorem MbB.arena (h : MbB w mb p) (A : Ar w p g n cap c f) (ho : Only p g w w') : MbB w' mb p := Blk.arena h A ho (by decide) (by decide)
theorem LkS.drew (h : LkS q mb p I W) : LkS q mb p I W.drew := h
theorem LkS.later (h : LkS q mb p I W) (hb : Below W.heap.size W w') : LkS q mb p I w' := by
  obtain ⟨⟨cs, h1, h2, h3⟩, hm⟩ := h
  exact ⟨⟨cs, h1.later hb, h2, h3⟩, hm.later hb⟩
theorem LkS.arena (h : LkS q mb p I W) (A : Ar W p g n cap c f) (ho : Only p g W w') : LkS q mb p I w' := by
  obtain ⟨⟨cs, h1, h2, h3⟩, hm⟩ := h
  exact ⟨⟨cs, h1.arena A ho (by decide) (by decide), h2, h3⟩, hm.arena A ho⟩
theorem LkS.set_ (h : LkS q mb p I W) {j : Nat} (hj : I j = none) (u : Value) : LkS q mb p I (W.setCell ⟨q, j, none⟩ u) := by
  obtain ⟨⟨cs, h1, h2, h3⟩, hm⟩ := h
  refine ⟨⟨_, h1.set_ j u, by simpa using h2, fun i v hi => ?_⟩, Blk.far hm (fun e => ?_) u⟩
  · rw [Array.getElem?_setIfInBounds_ne (fun e => by subst e; rw [hj] at hi; cases hi)]
    exact h3 i v hi
  · exact (Blk.ne_ hm h1 (by decide)) e
theorem LkS.at_ (h : LkS q mb p I W) (j : Nat) (v : Value) (hj : I j = some v) : W.cell? ⟨q, j, none⟩ = some v := by
  obtain ⟨⟨cs, h1, h2, h3⟩, hm⟩ := h
  exact (h1.cell j).trans (h3 j v hj)
theorem LkS.any (h : LkS q mb p I W) (j : Nat) (hj : j < 10) : W.cell? ⟨q, j, none⟩ = some (zAt W q j) := by
  obtain ⟨⟨cs, h1, h2, h3⟩, hm⟩ := h
  have hc := h1.cell j
  have hs : j < cs.size := by omega
  rw [Array.getElem?_eq_getElem hs] at hc
  unfold zAt
  rw [hc]
  rfl
theorem LkS.fz (h : LkS q mb p I W) (j : Nat) : W.frozen? ⟨q, j, none⟩ = false := by
  obtain ⟨⟨cs, h1, h2, h3⟩, hm⟩ := h
  exact h1.frozen j
theorem LkS.mbc (h : LkS q mb p I W) : W.cell? ⟨mb, 0, none⟩ = some (.pointer (some ⟨p, 0, none⟩)) := Blk.cell h.2 0
theorem LkS.lt (h : LkS q mb p I W) : q < W.heap.size ∧ mb < W.heap.size := by
  obtain ⟨⟨cs, h1, h2, h3⟩, hm⟩ := h
  exact ⟨h1.lt, Blk.lt hm⟩

/-- What the first step reads of a look. -/
def I0 (k : Nat) : Nat → Option Value
  | 3 => some (.int .i64 (k : Int))
  | _ => none
theorem Lk.s0 (h : Lk w q V S T k a o x th tg y) (hm : MbB w mb p) : LkS q mb p (I0 k) w :=
  ⟨⟨_, h, rfl, fun j v hj => by
    unfold I0 at hj
    split at hj
    · injection hj with hj; subst hj; rfl
    · cases hj⟩, hm⟩

set_option maxHeartbeats 1000000 in
theorem look_0plain (A : Ar w p g n cap c f) (h : Lk w q V S T k 0 o x th tg y) (hk : k < n) {o' x' tg' : Int} (hI : IsW (f k) o' x' 0 tg') (hm : CB c m) (hb : m ≤ 999990) :
    Calls Try.prog 29 #[.pointer (some ⟨q, 0, none⟩), .pointer (some ⟨p, 0, none⟩)] w fun e w' =>
      e = .returned (.bool true) ∧ Ar w' p g n cap (upd c 0 (c 0 + 1)) f ∧ Lk w' q V S T k 2 o' x' 0 tg' x' ∧ OnlyT q p g none w w' := by
  have HW := Lib.hid hI.right
  have hpl : (rightW o' x' 0 tg' && (0 : Int) == 0) = true := by rw [HW.out]; rfl
  have HPL := Lib.hid hpl
  have HA := Lib.hid A
  have HM := Lib.hid hm
  have HI := Lib.hid hI
  have HL := Lib.hid h
  have hq1 := h.ne_p A
  have hq2 := h.ne_g A
  clear A hm hI h hpl
  go_enter Try.func29, Try.ntmps29
  go_wp2_with fail
  refine (pm_of p _).mono ?_; rintro e w1 ⟨rfl, hb1⟩
  have HL1 := Lib.hid ((HL.out.later hb1).alloc (.cells #[.pointer (some ⟨p, 0, none⟩)] 28))
  have HA1 := Lib.hid ((HA.out.below hb1 (Nat.le_refl _)).alloc (.cells #[.pointer (some ⟨p, 0, none⟩)] 28))
  have HM1 : Hid (MbB (w1.alloc (.cells #[.pointer (some ⟨p, 0, none⟩)] 28)) w1.heap.size p) := Lib.hid (Blk.new w1 _ _)
  have HB1 := Lib.hid (hb1.alloc hb1.size (.cells #[.pointer (some ⟨p, 0, none⟩)] 28))
  obtain ⟨d0, d1, d2, d3, d4, d5, d6, d7, d8, d9⟩ := (HL.out.later hb1).cells
  have hl := (HL.out.later hb1).lt
  clear hb1
  go_wp2_with fail
  clear d0 d1 d2 d3 d4 d5 d6 d7 d8 d9 hl
  generalize w1.alloc (.cells #[.pointer (some ⟨p, 0, none⟩)] 28) = w2 at HL1 HA1 HM1 HB1 ⊢
  generalize w1.heap.size = mb at HM1 ⊢
  have HS := Lib.hid (HL1.out.s0 HM1.out)
  have hr : ∀ W, LkS q mb p (I0 k) W → W.cell? ⟨q, 3, none⟩ = some (.int .i64 (k : Int)) ∧ W.cell? ⟨mb, 0, none⟩ = some (.pointer (some ⟨p, 0, none⟩)) := fun W h => ⟨h.at_ 3 _ rfl, h.mbc⟩
  have hz : ∀ W, LkS q mb p (I0 k) W → W.cell? ⟨q, 4, none⟩ = some (zAt W q 4) ∧ W.cell? ⟨q, 5, none⟩ = some (zAt W q 5) ∧ W.cell? ⟨q, 6, none⟩ = some (zAt W q 6) ∧ W.cell? ⟨q, 7, none⟩ = some (zAt W q 7) ∧ W.cell? ⟨q, 8, none⟩ = some (zAt W q 8) := fun W h => ⟨h.any 4 (by omega), h.any 5 (by omega), h.any 6 (by omega), h.any 7 (by omega), h.any 8 (by omega)⟩
  have hzf : ∀ W, LkS q mb p (I0 k) W → W.frozen? ⟨q, 4, none⟩ = false ∧ W.frozen? ⟨q, 5, none⟩ = false ∧ W.frozen? ⟨q, 6, none⟩ = false ∧ W.frozen? ⟨q, 7, none⟩ = false ∧ W.frozen? ⟨q, 8, none⟩ = false := fun W h => ⟨h.fz 4, h.fz 5, h.fz 6, h.fz 7, h.fz 8⟩
  have HLd := Lib.hid HL1.out.drew
  have HAd := Lib.hid HA1.out.drew
  have HMd : Hid (MbB w2.drew mb p) := Lib.hid HM1.out
  go_region_held3 (LkS q mb p (I0 k)) (first | (with_reducible assumption) | (with_reducible exact (((LkS.set_ (by assumption) rfl _).set_ rfl _).set_ rfl _).set_ rfl _) | (with_reducible exact LkS.set_ (by assumption) rfl _) | (with_reducible exact LkS.arena (by assumption) HAd.out O2) | (with_reducible exact HS.out.drew))
    (first
      | (go_at_call 44; ((with_reducible refine (read_any HAd.out hk HI.out HM.out (by omega)).mono ?_); rintro e w' ⟨rfl, A2, O2⟩)))
  have HL2 := Lib.hid (((HLd.out.arena HAd.out O2).setW o' x' 0 tg').setA 1)
  have HA2 := Lib.hid (((((A2.q_far (j := 5) hq1 hq2 (.int .i64 o')).q_far (j := 6) hq1 hq2 (.int .i64 x')).q_far (j := 7) hq1 hq2 (.int .i64 0)).q_far (j := 8) hq1 hq2 (.int .i64 tg')).q_far (j := 4) hq1 hq2 (.int .i64 1))
  have HO2 : Hid (OnlyT q p g none w _) := Lib.hid ((((((OnlyT.of_only ((Only.of_below (p := p) (g := g) HB1.out).drew.trans O2)).set_t (j := 5) (.int .i64 o')).set_t (j := 6) (.int .i64 x')).set_t (j := 7) (.int .i64 0)).set_t (j := 8) (.int .i64 tg')).set_t (j := 4) (.int .i64 1))
  clear A2 O2 hr hz hzf HLd HAd HMd HS HL1 HA1 HM1
  generalize (((((w'.setCell ⟨q, 5, none⟩ (.int .i64 o')).setCell ⟨q, 6, none⟩ (.int .i64 x')).setCell ⟨q, 7, none⟩ (.int .i64 0)).setCell ⟨q, 8, none⟩ (.int .i64 tg')).setCell ⟨q, 4, none⟩ (.int .i64 1)) = W3 at HL2 HA2 HO2 ⊢
  obtain ⟨d0, d1, d2, d3, d4, d5, d6, d7, d8, d9⟩ := HL2.out.cells
  have hl := HL2.out.lt
  go_wp2_with fail
  refine (plain_any o' x' 0 tg' _).mono ?_; rintro e w4 ⟨rfl, hb4⟩; rw [HPL.out]
  have HL4 := Lib.hid (HL2.out.later hb4)
  have HA4 := Lib.hid (HA2.out.below hb4 (Nat.le_refl _))
  have HO4 := Lib.hid (HO2.out.trans (OnlyT.of_only (Only.of_below hb4)))
  clear hb4 d0 d1 d2 d3 d4 d5 d6 d7 d8 d9 hl HL2 HA2 HO2
  obtain ⟨d0, d1, d2, d3, d4, d5, d6, d7, d8, d9⟩ := HL4.out.cells
  have hl := HL4.out.lt
  have f4 := HL4.out.fz 4
  have f9 := HL4.out.fz 9
  go_wp2_with fail
  refine (look_done ((HL4.out.setY x').setA 2)).mono ?_; rintro e w5 ⟨rfl, rfl⟩
  go_wp2_with fail
  go_ret
  exact ⟨rfl, (HA4.out.q_far hq1 hq2 _).q_far hq1 hq2 _, (HL4.out.setY x').setA 2, (HO4.out.set_t _).set_t _⟩

set_option maxHeartbeats 1000000 in
theorem look_0word (A : Ar w p g n cap c f) (h : Lk w q V S T k 0 o x th tg y) (hk : k < n) {o' x' th' tg' : Int} (hI : IsW (f k) o' x' th' tg') (h0 : th' ≠ 0) (hm : CB c m) (hb : m ≤ 999990) :
    Calls Try.prog 29 #[.pointer (some ⟨q, 0, none⟩), .pointer (some ⟨p, 0, none⟩)] w fun e w' =>
      e = .returned (.bool false) ∧ Ar w' p g n cap (upd c 0 (c 0 + 1)) f ∧ Lk w' q V S T k 1 o' x' th' tg' y ∧ OnlyT q p g none w w' := by
  have HW := Lib.hid hI.right
  have hpl : (rightW o' x' th' tg' && th' == 0) = false := by
    have : (th' == 0) = false := by rw [beq_eq_false_iff_ne]; exact h0
    rw [this, Bool.and_false]
  have HPL := Lib.hid hpl
  have HA := Lib.hid A
  have HM := Lib.hid hm
  have HI := Lib.hid hI
  have HL := Lib.hid h
  have hq1 := h.ne_p A
  have hq2 := h.ne_g A
  clear A hm hI h hpl h0
  go_enter Try.func29, Try.ntmps29
  go_wp2_with fail
  refine (pm_of p _).mono ?_; rintro e w1 ⟨rfl, hb1⟩
  have HL1 := Lib.hid ((HL.out.later hb1).alloc (.cells #[.pointer (some ⟨p, 0, none⟩)] 28))
  have HA1 := Lib.hid ((HA.out.below hb1 (Nat.le_refl _)).alloc (.cells #[.pointer (some ⟨p, 0, none⟩)] 28))
  have HM1 : Hid (MbB (w1.alloc (.cells #[.pointer (some ⟨p, 0, none⟩)] 28)) w1.heap.size p) := Lib.hid (Blk.new w1 _ _)
  have HB1 := Lib.hid (hb1.alloc hb1.size (.cells #[.pointer (some ⟨p, 0, none⟩)] 28))
  obtain ⟨d0, d1, d2, d3, d4, d5, d6, d7, d8, d9⟩ := (HL.out.later hb1).cells
  have hl := (HL.out.later hb1).lt
  clear hb1
  go_wp2_with fail
  clear d0 d1 d2 d3 d4 d5 d6 d7 d8 d9 hl
  generalize w1.alloc (.cells #[.pointer (some ⟨p, 0, none⟩)] 28) = w2 at HL1 HA1 HM1 HB1 ⊢
  generalize w1.heap.size = mb at HM1 ⊢
  have HS := Lib.hid (HL1.out.s0 HM1.out)
  have hr : ∀ W, LkS q mb p (I0 k) W → W.cell? ⟨q, 3, none⟩ = some (.int .i64 (k : Int)) ∧ W.cell? ⟨mb, 0, none⟩ = some (.pointer (some ⟨p, 0, none⟩)) := fun W h => ⟨h.at_ 3 _ rfl, h.mbc⟩
  have hz : ∀ W, LkS q mb p (I0 k) W → W.cell? ⟨q, 4, none⟩ = some (zAt W q 4) ∧ W.cell? ⟨q, 5, none⟩ = some (zAt W q 5) ∧ W.cell? ⟨q, 6, none⟩ = some (zAt W q 6) ∧ W.cell? ⟨q, 7, none⟩ = some (zAt W q 7) ∧ W.cell? ⟨q, 8, none⟩ = some (zAt W q 8) := fun W h => ⟨h.any 4 (by omega), h.any 5 (by omega), h.any 6 (by omega), h.any 7 (by omega), h.any 8 (by omega)⟩
  have hzf : ∀ W, LkS q mb p (I0 k) W → W.frozen? ⟨q, 4, none⟩ = false ∧ W.frozen? ⟨q, 5, none⟩ = false ∧ W.frozen? ⟨q, 6, none⟩ = false ∧ W.frozen? ⟨q, 7, none⟩ = false ∧ W.frozen? ⟨q, 8, none⟩ = false := fun W h => ⟨h.fz 4, h.fz 5, h.fz 6, h.fz 7, h.fz 8⟩
  have HLd := Lib.hid HL1.out.drew
  have HAd := Lib.hid HA1.out.drew
  have HMd : Hid (MbB w2.drew mb p) := Lib.hid HM1.out
  go_region_held3 (LkS q mb p (I0 k)) (first | (with_reducible assumption) | (with_reducible exact (((LkS.set_ (by assumption) rfl _).set_ rfl _).set_ rfl _).set_ rfl _) | (with_reducible exact LkS.set_ (by assumption) rfl _) | (with_reducible exact LkS.arena (by assumption) HAd.out O2) | (with_reducible exact HS.out.drew))
    (first
      | (go_at_call 44; ((with_reducible refine (read_any HAd.out hk HI.out HM.out (by omega)).mono ?_); rintro e w' ⟨rfl, A2, O2⟩)))
  have HL2 := Lib.hid (((HLd.out.arena HAd.out O2).setW o' x' th' tg').setA 1)
  have HA2 := Lib.hid (((((A2.q_far (j := 5) hq1 hq2 (.int .i64 o')).q_far (j := 6) hq1 hq2 (.int .i64 x')).q_far (j := 7) hq1 hq2 (.int .i64 th')).q_far (j := 8) hq1 hq2 (.int .i64 tg')).q_far (j := 4) hq1 hq2 (.int .i64 1))
  have HO2 : Hid (OnlyT q p g none w _) := Lib.hid ((((((OnlyT.of_only ((Only.of_below (p := p) (g := g) HB1.out).drew.trans O2)).set_t (j := 5) (.int .i64 o')).set_t (j := 6) (.int .i64 x')).set_t (j := 7) (.int .i64 th')).set_t (j := 8) (.int .i64 tg')).set_t (j := 4) (.int .i64 1))
  clear A2 O2 hr hz hzf HLd HAd HMd HS HL1 HA1 HM1
  generalize (((((w'.setCell ⟨q, 5, none⟩ (.int .i64 o')).setCell ⟨q, 6, none⟩ (.int .i64 x')).setCell ⟨q, 7, none⟩ (.int .i64 th')).setCell ⟨q, 8, none⟩ (.int .i64 tg')).setCell ⟨q, 4, none⟩ (.int .i64 1)) = W3 at HL2 HA2 HO2 ⊢
  obtain ⟨d0, d1, d2, d3, d4, d5, d6, d7, d8, d9⟩ := HL2.out.cells
  have hl := HL2.out.lt
  go_wp2_with fail
  refine (plain_any o' x' th' tg' _).mono ?_; rintro e w4 ⟨rfl, hb4⟩; rw [HPL.out]
  have HL4 := Lib.hid (HL2.out.later hb4)
  have HA4 := Lib.hid (HA2.out.below hb4 (Nat.le_refl _))
  have HO4 := Lib.hid (HO2.out.trans (OnlyT.of_only (Only.of_below hb4)))
  clear hb4 d0 d1 d2 d3 d4 d5 d6 d7 d8 d9 hl HL2 HA2 HO2
  obtain ⟨d0, d1, d2, d3, d4, d5, d6, d7, d8, d9⟩ := HL4.out.cells
  have hl := HL4.out.lt
  go_wp2_with fail
  refine (look_done HL4.out).mono ?_; rintro e w5 ⟨rfl, rfl⟩
  go_wp2_with fail
  go_ret
  exact ⟨rfl, HA4.out, HL4.out, HO4.out⟩

/-- What the second step reads of a look. -/
def I1 (V : Int) (S : Nat) (T o x th tg : Int) : Nat → Option Value
  | 0 => some (.int .i64 V)
  | 1 => some (.int .i64 S)
  | 2 => some (.int .i64 T)
  | 5 => some (.int .i64 o)
  | 6 => some (.int .i64 x)
  | 7 => some (.int .i64 th)
  | 8 => some (.int .i64 tg)
  | _ => none
theorem Lk.s1 (h : Lk w q V S T k a o x th tg y) (hm : MbB w mb p) : LkS q mb p (I1 V S T o x th tg) w :=
  ⟨⟨_, h, rfl, fun j v hj => by
    unfold I1 at hj
    split at hj
    all_goals first
      | (injection hj with hj; subst hj; rfl)
      | cases hj⟩, hm⟩

set_option maxHeartbeats 1000000 in
theorem look_1 (hR : Rt V S T) (hW : rightW o x th tg = true) (hth : th = (t : Int) + 1) (htT : th ≤ T) (A : Ar w p g n cap c f) (ht : t < n) (h : Lk w q V S T k 1 o x th tg y) (hm : CB c m) (hb : m ≤ 999990) :
    Calls Try.prog 29 #[.pointer (some ⟨q, 0, none⟩), .pointer (some ⟨p, 0, none⟩)] w fun e w' =>
      e = .returned (.bool true) ∧ Ar w' p g n cap (upd c 0 (c 0 + 1)) f ∧ Lk w' q V S T k 2 o x th tg (mnS o x th tg (f t)) ∧ OnlyT q p g none w w' := by
  have HA := Lib.hid A
  have HM := Lib.hid hm
  have HR := Lib.hid hR
  have HW := Lib.hid hW
  have HT := Lib.hid hth
  have HL := Lib.hid h
  have hq1 := h.ne_p A
  have hq2 := h.ne_g A
  clear A hm hR hW hth h
  go_enter Try.func29, Try.ntmps29
  go_wp2_with fail
  refine (pm_of p _).mono ?_; rintro e w1 ⟨rfl, hb1⟩
  have HL1 := Lib.hid ((HL.out.later hb1).alloc (.cells #[.pointer (some ⟨p, 0, none⟩)] 28))
  have HA1 := Lib.hid ((HA.out.below hb1 (Nat.le_refl _)).alloc (.cells #[.pointer (some ⟨p, 0, none⟩)] 28))
  have HM1 : Hid (MbB (w1.alloc (.cells #[.pointer (some ⟨p, 0, none⟩)] 28)) w1.heap.size p) := Lib.hid (Blk.new w1 _ _)
  have HB1 := Lib.hid (hb1.alloc hb1.size (.cells #[.pointer (some ⟨p, 0, none⟩)] 28))
  obtain ⟨d0, d1, d2, d3, d4, d5, d6, d7, d8, d9⟩ := (HL.out.later hb1).cells
  have hl := (HL.out.later hb1).lt
  clear hb1
  go_wp2_with fail
  clear d0 d1 d2 d3 d4 d5 d6 d7 d8 d9 hl
  generalize w1.alloc (.cells #[.pointer (some ⟨p, 0, none⟩)] 28) = w2 at HL1 HA1 HM1 HB1 ⊢
  generalize w1.heap.size = mb at HM1 ⊢
  have HS := Lib.hid (HL1.out.s1 HM1.out)
  have hr : ∀ W, LkS q mb p (I1 V S T o x th tg) W → W.cell? ⟨q, 0, none⟩ = some (.int .i64 V) ∧ W.cell? ⟨q, 1, none⟩ = some (.int .i64 S) ∧ W.cell? ⟨q, 2, none⟩ = some (.int .i64 T) ∧ W.cell? ⟨q, 5, none⟩ = some (.int .i64 o) ∧ W.cell? ⟨q, 6, none⟩ = some (.int .i64 x) ∧ W.cell? ⟨q, 7, none⟩ = some (.int .i64 th) ∧ W.cell? ⟨q, 8, none⟩ = some (.int .i64 tg) ∧ W.cell? ⟨mb, 0, none⟩ = some (.pointer (some ⟨p, 0, none⟩)) := fun W h => ⟨h.at_ 0 _ rfl, h.at_ 1 _ rfl, h.at_ 2 _ rfl, h.at_ 5 _ rfl, h.at_ 6 _ rfl, h.at_ 7 _ rfl, h.at_ 8 _ rfl, h.mbc⟩
  have hz : ∀ W, LkS q mb p (I1 V S T o x th tg) W → W.cell? ⟨q, 4, none⟩ = some (zAt W q 4) ∧ W.cell? ⟨q, 9, none⟩ = some (zAt W q 9) := fun W h => ⟨h.any 4 (by omega), h.any 9 (by omega)⟩
  have hzf : ∀ W, LkS q mb p (I1 V S T o x th tg) W → W.frozen? ⟨q, 4, none⟩ = false ∧ W.frozen? ⟨q, 9, none⟩ = false := fun W h => ⟨h.fz 4, h.fz 9⟩
  have HLd := Lib.hid HL1.out.drew
  have HAd := Lib.hid HA1.out.drew
  have HMd : Hid (MbB w2.drew mb p) := Lib.hid HM1.out
  go_region_held3 (LkS q mb p (I1 V S T o x th tg)) (first | (with_reducible assumption) | (with_reducible exact LkS.set_ (by assumption) rfl _) | (with_reducible exact LkS.arena (by assumption) HAd.out O2) | (with_reducible exact HS.out.drew))
    (first
      | (go_at_call 46; ((with_reducible refine (meaning_any HR.out HW.out HT.out htT HAd.out ht HM.out (by omega)).mono ?_); rintro e w' ⟨rfl, A2, O2⟩)))
  have HL2 := Lib.hid (((HLd.out.arena HAd.out O2).setY (mnS o x th tg (f t))).setA 2)
  have HA2 := Lib.hid ((A2.q_far (j := 9) hq1 hq2 (.int .i64 (mnS o x th tg (f t)))).q_far (j := 4) hq1 hq2 (.int .i64 2))
  have HO2 : Hid (OnlyT q p g none w _) := Lib.hid (((OnlyT.of_only ((Only.of_below (p := p) (g := g) HB1.out).drew.trans O2)).set_t (j := 9) (.int .i64 (mnS o x th tg (f t)))).set_t (j := 4) (.int .i64 2))
  clear A2 O2 hr hz hzf HLd HAd HMd HS HL1 HA1 HM1
  generalize ((w'.setCell ⟨q, 9, none⟩ (.int .i64 (mnS o x th tg (f t)))).setCell ⟨q, 4, none⟩ (.int .i64 2)) = W3 at HL2 HA2 HO2 ⊢
  obtain ⟨d0, d1, d2, d3, d4, d5, d6, d7, d8, d9⟩ := HL2.out.cells
  have hl := HL2.out.lt
  go_wp2_with fail
  refine (look_done HL2.out).mono ?_; rintro e w5 ⟨rfl, rfl⟩
  go_wp2_with fail
  go_ret
  exact ⟨rfl, HA2.out, HL2.out, HO2.out⟩
end
end Go.Proofs.Ytipjbgkfhkidkaa
