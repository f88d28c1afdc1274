/- Free slots: links, Init and List. Printed by wip/tools/bis.py. -/
import Derived.Test.YtaooglagddphnaaZB
namespace Go.Proofs.Ytaooglagddphnaa
open Go.RowKit

set_option maxRecDepth 100000

/-- From the number t on (a slot's and 1; 0: none) the slots are L. -/
def Chain (nx : Nat → Nat) : Nat → List Nat → Prop
  | t, [] => t = 0
  | t, s :: L => t = s + 1 ∧ Chain nx (nx s) L

theorem chain_range (S : Nat) : ∀ m k, k + m = S → Chain (fun s => if s + 1 < S then s + 2 else 0) (if m = 0 then 0 else k + 1) (List.range' k m)
  | 0, _, _ => rfl
  | m + 1, k, h => by
    refine ⟨by rw [if_neg (Nat.succ_ne_zero m)], ?_⟩
    have := chain_range S m (k + 1) (by omega)
    have e : (if k + 1 < S then k + 2 else 0) = (if m = 0 then 0 else k + 1 + 1) := by
      by_cases hm : m = 0
      · rw [if_pos hm, if_neg (by omega)]
      · rw [if_neg hm, if_pos (by omega)]
    simp only [e]
    exact this

/-- The slot that a link leads to, and whether there is one. -/
def lkF (S : Nat) (v : Int) : Int := if 1 ≤ v ∧ v ≤ S then v - 1 else 0

def lkB (S : Nat) (v : Int) : Bool := decide (1 ≤ v ∧ v ≤ S)

/-- The link of a slot. -/
def lnF (S : Nat) (s : Int) : Int := if 0 ≤ s ∧ s < S then s + 1 else 0

theorem slotF_in {S : Nat} {T a k : Int} (h1 : 0 ≤ a) (h2 : a < S) (h3 : 0 ≤ k) (h4 : k < 7) : slotF S T a k = T + 1 + a * 7 + k := if_pos ⟨h1, h2, h3, h4⟩

theorem slotF_out {S : Nat} {T a k : Int} (h : a < 0 ∨ (S : Int) ≤ a) : slotF S T a k = -1 := if_neg (by omega)

theorem linked_any {V T : Int} {S : Nat} (h : Rt V S T) {v : Int} (h0 : 0 ≤ v) (h1 : v ≤ 1000000) (w : World) :
    Calls Try.prog 70 #[vL V S T, .int .u64 v] w fun e w' => e = .returned (.tuple #[.int .i64 (lkF S v), .bool (lkB S v)]) ∧ Below w.heap.size w w' := by
  have s2 := h.s2
  have t1 := h.t1
  have t2 := h.t2
  by_cases hv : 1 ≤ v ∧ v ≤ S
  · have e1 : lkF S v = v - 1 := if_pos hv
    have e2 : lkB S v = true := decide_eq_true hv
    have e3 := slotF_in (S := S) (T := T) (a := v - 1) (k := 0) (by omega) (by omega) (by omega) (by omega)
    rw [e1, e2]
    have HE := Lib.hid e3
    have HV := Lib.hid hv
    have H := Lib.hid h
    clear e1 e2 e3 hv h
    go_enter Try.func70, Try.ntmps70
    go_wp2_with fail
    refine (nextFree_yes V S T (v - 1) H.out _).mono ?_; rintro e w1 ⟨rfl, hb1⟩; rw [HE.out]
    have h5 : ¬ (T + 1 + (v - 1) * 7 + 0 < 0) := by have := HV.out; omega
    go_wp2_with fail
    go_ret2
    exact ⟨rfl, keepL ((Below.refl _ _).alloc (Nat.le_refl _) _) hb1⟩
  · have e1 : lkF S v = 0 := if_neg hv
    have e2 : lkB S v = false := decide_eq_false hv
    have e3 := slotF_out (S := S) (T := T) (a := v - 1) (k := 0) (by omega)
    rw [e1, e2]
    have HE := Lib.hid e3
    have H := Lib.hid h
    clear e1 e2 e3 hv h
    go_enter Try.func70, Try.ntmps70
    go_wp2_with fail
    refine (nextFree_yes V S T (v - 1) H.out _).mono ?_; rintro e w1 ⟨rfl, hb1⟩; rw [HE.out]
    go_wp2_with fail
    go_ret2
    exact ⟨rfl, keepL ((Below.refl _ _).alloc (Nat.le_refl _) _) hb1⟩

theorem link_any {V T : Int} {S : Nat} (h : Rt V S T) {s : Int} (h0 : -1000000 ≤ s) (h1 : s ≤ 1000000) (w : World) :
    Calls Try.prog 106 #[vL V S T, .int .i64 s] w fun e w' => e = .returned (.int .u64 (lnF S s)) ∧ Below w.heap.size w w' := by
  have s2 := h.s2
  have t1 := h.t1
  have t2 := h.t2
  by_cases hv : 0 ≤ s ∧ s < S
  · have e1 : lnF S s = s + 1 := if_pos hv
    have e3 := slotF_in (S := S) (T := T) (a := s) (k := 0) (by omega) (by omega) (by omega) (by omega)
    rw [e1]
    have h5 : 0 ≤ s := hv.1
    have HE := Lib.hid e3
    have H := Lib.hid h
    clear e1 e3 hv h
    go_enter Try.func106, Try.ntmps106
    go_wp2_with fail
    refine (nextFree_yes V S T s H.out _).mono ?_; rintro e w1 ⟨rfl, hb1⟩; rw [HE.out]
    have h6 : ¬ (T + 1 + s * 7 + 0 < 0) := by omega
    go_wp2_with fail
    go_ret
    exact ⟨rfl, keepL ((Below.refl _ _).alloc (Nat.le_refl _) _) hb1⟩
  · have e1 : lnF S s = 0 := if_neg hv
    have e3 := slotF_out (S := S) (T := T) (a := s) (k := 0) (by omega)
    rw [e1]
    have HE := Lib.hid e3
    have H := Lib.hid h
    clear e1 e3 hv h
    go_enter Try.func106, Try.ntmps106
    go_wp2_with fail
    refine (nextFree_yes V S T s H.out _).mono ?_; rintro e w1 ⟨rfl, hb1⟩; rw [HE.out]
    go_wp2_with fail
    go_ret
    exact ⟨rfl, keepL ((Below.refl _ _).alloc (Nat.le_refl _) _) hb1⟩

theorem lnF_bd (S : Nat) (s : Int) (h : S ≤ 48) : 0 ≤ lnF S s ∧ lnF S s ≤ 18446744073709551615 := by unfold lnF; split <;> omega

/-- What Init has done of all slots below i; the counts of swaps stay. -/
def IniRel (b p g n cap t S m : Nat) (V : Int) (c f : Nat → Int) (w0 : World) (i : Nat) (w : World) : Prop :=
  ∃ c' f' : Nat → Int, Ar w p g n cap c' f' ∧ CB c' (m + 1 + i) ∧ c' 2 = c 2 ∧ c' 3 = c 3 ∧ f' t = lnF S 0 ∧ (∀ s, s < i → f' (t + 1 + s * 7) = lnF S ((s : Int) + 1)) ∧
    (∀ k, k ≠ t → (∀ s, s < i → k ≠ t + 1 + s * 7) → f' k = f k) ∧ LyB w b V S t ∧ Only p g w0 w

set_option maxHeartbeats 2000000 in
theorem init_any {w : World} {p g n cap t S m : Nat} {V T : Int} {c f : Nat → Int} (hR : Rt V S T) (ht : T = (t : Int)) (A : Ar w p g n cap c f) (hn : t < n) (hn2 : ∀ s, s < S → t + 1 + s * 7 < n) (hm : CB c m) (hb : m ≤ 100000) :
    Calls Try.prog 61 #[.iface 84 (pmV p), vL V S T] w fun e w' => e = .returned (.tuple #[]) ∧ ∃ b, IniRel b p g n cap t S m V c f w S w' := by
  subst ht
  have ms := methp_store
  have mn := nilp_store
  have s2 := hR.s2
  have n3 : (n : Int) ≤ 16384 := by have := A.few; omega
  have HR := Lib.hid hR
  have HY := Lib.hid hR.yes
  have HA := Lib.hid A
  have HM := Lib.hid hm
  have HN := Lib.hid hn2
  clear hR A hm hn2
  go_enter Try.func61, Try.ntmps61
  go_wp2_with fail
  have hlb : ∀ W : World, LyB W w.heap.size V S t → W.cell? ⟨w.heap.size, 0, none⟩ = some (.int .i64 V) ∧ W.cell? ⟨w.heap.size, 1, none⟩ = some (.int .i64 S) ∧ W.cell? ⟨w.heap.size, 2, none⟩ = some (.int .i64 (t : Int)) := fun W h => h.cells
  have HL0 : Hid (LyB (w.alloc (.cells #[.int .i64 V, .int .i64 S, .int .i64 (t : Int)] 23)) w.heap.size V S t) := Lib.hid (Blk.new _ _ _)
  have HA0 := Lib.hid (HA.out.alloc (.cells #[.int .i64 V, .int .i64 S, .int .i64 (t : Int)] 23))
  have HO0 := Lib.hid ((Only.refl p g w).alloc (.cells #[.int .i64 V, .int .i64 S, .int .i64 (t : Int)] 23))
  refine (right_any _ _ _ _).mono ?_; rintro e w1 ⟨rfl, hb1⟩; rw [HY.out]
  have HL1 := Lib.hid (HL0.out.below hb1)
  have HA1 := Lib.hid (HA0.out.below hb1 (Nat.le_refl _))
  have HO1 := Lib.hid (HO0.out.trans (Only.of_below hb1))
  clear hb1 HA HL0 HA0 HO0
  go_wp2_with fail
  have hbp : w.heap.size ≠ p := HL1.out.ne_p HA1.out
  have hbg : w.heap.size ≠ g := HL1.out.ne_g HA1.out
  generalize hwb : w.heap.size = b at HL1 hbp hbg hlb ⊢
  obtain ⟨y0, y1, y2⟩ := HL1.out.cells
  have hlt := HL1.out.lt
  have v0 := (lnF_bd S 0 (by omega)).1
  have v1 := (lnF_bd S 0 (by omega)).2
  have HLd := Lib.hid HL1.out.drew
  have HAd := Lib.hid HA1.out.drew
  have HOd := Lib.hid HO1.out.drew
  go_region_held3 (fun W => LyB W b V S t) (first | (with_reducible assumption) | (with_reducible exact HLd.out) | (with_reducible exact LyB.below (by assumption) hb1) | (with_reducible exact LyB.only (by assumption) (Hid.out (by assumption : Hid (Ar _ p g n cap c f))) O2))
    (first
      | (go_at_call 71; ((with_reducible refine (free_yes V S t HR.out _).mono ?_); rintro e w' ⟨rfl, hb1⟩; have HA' := Lib.hid (Ar.below (Hid.out (by assumption : Hid (Ar _ p g n cap c f))) hb1 (Nat.le_refl _)); have HO' := Lib.hid (Only.trans (Hid.out (by assumption : Hid (Only p g w _))) (Only.of_below hb1))))
      | (go_at_call 106; ((with_reducible refine (link_any HR.out (by omega) (by omega) _).mono ?_); rintro e w' ⟨rfl, hb1⟩; have HA' := Lib.hid (Ar.below (Hid.out (by assumption : Hid (Ar _ p g n cap c f))) hb1 (Nat.le_refl _)); have HO' := Lib.hid (Only.trans (Hid.out (by assumption : Hid (Only p g w _))) (Only.of_below hb1))))
      | ((with_reducible refine (pm_store (Hid.out (by assumption : Hid (Ar _ p g n cap c f))) hn v0 v1 HM.out (by omega)).mono ?_); rintro e w2 ⟨rfl, A2, O2⟩; have HL2 := Lib.hid (LyB.only (by assumption) (Hid.out (by assumption : Hid (Ar _ p g n cap c f))) O2); have HO2 := Lib.hid (Only.trans (Hid.out (by assumption : Hid (Only p g w _))) O2)))
  all_goals
    have HA2 := Lib.hid A2
    clear A2 O2
    obtain ⟨y0, y1, y2⟩ := HL2.out.cells
    have hlt2 := HL2.out.lt
    have hRel : Hid (IniRel b p g n cap t S m V c f w 0 w2) := Lib.hid ⟨_, _, HA2.out, (HM.out.upd 1).more (by omega), upd_other _ _ (by omega), upd_other _ _ (by omega), upd_same _ _ _, fun s hs => absurd hs (Nat.not_lt_zero _), fun k hk _ => upd_other _ _ hk, HL2.out, HO2.out⟩
    clear HA1 HO1 HL1 HAd HOd HLd HA' HO' HL2 HO2 HA2
    go_wp2_with fail
    go_loopw [19] (fun i wr => ∃ k : Nat, k ≤ S ∧ i = .int .i64 (k : Int) ∧ IniRel b p g n cap t S m V c f w k wr) (fun i _ => S - (intOf i).toNat)
    case atStart => exact ⟨0, Nat.zero_le _, rfl, hRel.out⟩
    case round =>
      clear hRel y0 y1 y2 hlt2
      obtain ⟨k, hk, rfl, c1, f1, A, m1, c2, c3, fh, fs, fo, L, O⟩ := hrel
      by_cases hlt : k < S
      · have HA1 := Lib.hid A
        have HM1 := Lib.hid m1
        have HL1 := Lib.hid L
        have HO1 := Lib.hid O
        have HF := Lib.hid (And.intro c2 (And.intro c3 (And.intro fh (And.intro fs fo))))
        clear A m1 L O c2 c3 fh fs fo
        obtain ⟨y0, y1, y2⟩ := HL1.out.cells
        have hltb := HL1.out.lt
        have v0 := (lnF_bd S ((k : Int) + 1) (by omega)).1
        have v1 := (lnF_bd S ((k : Int) + 1) (by omega)).2
        have s3 : -1000000 ≤ (k : Int) + 1 := by omega
        have s4 : (k : Int) + 1 ≤ 1000000 := by omega
        have wrk : IntKind.i64.wrap ((k : Int) + 1) = (k : Int) + 1 := IntWalk.i64_in _ (by omega)
        obtain ⟨j, hj⟩ : ∃ j : Nat, j = t + 1 + k * 7 := ⟨_, rfl⟩
        have hjn : j < n := by rw [hj]; exact HN.out k hlt
        have e2 : slotF S (t : Int) (k : Int) 0 = (j : Int) := by rw [slotF_in (by omega) (by omega) (by omega) (by omega)]; omega
        have HE2 := Lib.hid e2
        have HJ := Lib.hid hj
        clear e2 hj
        go_wp2_with fail
        have HLd := Lib.hid HL1.out.drew
        have HAd := Lib.hid HA1.out.drew
        have HOd := Lib.hid HO1.out.drew
        go_region_held3 (fun W => LyB W b V S t) (first | (with_reducible assumption) | (with_reducible exact HLd.out) | (with_reducible exact LyB.below (by assumption) hb1) | (with_reducible exact LyB.only (by assumption) (Hid.out (by assumption : Hid (Ar _ p g n cap c1 f1))) O2))
          (first
            | (go_at_call 72; ((with_reducible refine (nextFree_yes V S t (k : Int) HR.out _).mono ?_); rintro e w' ⟨rfl, hb1⟩; rw [HE2.out]; have HA' := Lib.hid (Ar.below (Hid.out (by assumption : Hid (Ar _ p g n cap c1 f1))) hb1 (Nat.le_refl _)); have HO' := Lib.hid (Only.trans (Hid.out (by assumption : Hid (Only p g w _))) (Only.of_below hb1))))
            | (go_at_call 106; ((with_reducible refine (link_any HR.out s3 s4 _).mono ?_); rintro e w' ⟨rfl, hb1⟩; have HA' := Lib.hid (Ar.below (Hid.out (by assumption : Hid (Ar _ p g n cap c1 f1))) hb1 (Nat.le_refl _)); have HO' := Lib.hid (Only.trans (Hid.out (by assumption : Hid (Only p g w _))) (Only.of_below hb1))))
            | ((with_reducible refine (pm_store (Hid.out (by assumption : Hid (Ar _ p g n cap c1 f1))) hjn v0 v1 HM1.out (by omega)).mono ?_); rintro e w2 ⟨rfl, A2, O2⟩; have HL2 := Lib.hid (LyB.only (by assumption) (Hid.out (by assumption : Hid (Ar _ p g n cap c1 f1))) O2); have HO2 := Lib.hid (Only.trans (Hid.out (by assumption : Hid (Only p g w _))) O2)))
        all_goals
          have hRel : Hid (IniRel b p g n cap t S m V c f w (k + 1) w2) := by
            obtain ⟨q2, q3, qh, qs, qo⟩ := HF.out
            have hj := HJ.out
            refine Lib.hid ⟨_, _, A2, (HM1.out.upd 1).more (by omega), (upd_other _ _ (by omega)).trans q2, (upd_other _ _ (by omega)).trans q3, (upd_other _ _ (by omega)).trans qh, fun s hs => ?_, fun i hi hi2 => ?_, HL2.out, HO2.out⟩
            · by_cases e : s = k
              · subst e; rw [← hj, upd_same]
              · rw [upd_other _ _ (by omega)]; exact qs s (by omega)
            · rw [upd_other _ _ (by have := hi2 k (by omega); omega)]
              exact qo i hi fun s hs => hi2 s (by omega)
          clear A2 O2 HL2 HO2 HA' HO' HAd HOd HLd HA1 HO1 HL1 HF HM1 y0 y1 y2
          go_wp2_with fail
          go_round
          case rel => exact ⟨k + 1, by omega, by go_num, hRel.out⟩
          case measure => simp [intOf]; omega
      · have e : k = S := by omega
        subst e
        obtain ⟨y0, y1, y2⟩ := L.cells
        have hltb := L.lt
        have HF := Lib.hid (show IniRel b p g n cap t k m V c f w k wr from ⟨c1, f1, A, m1, c2, c3, fh, fs, fo, L, O⟩)
        clear A m1 L O c2 c3 fh fs fo
        go_wp2_with fail
        go_end0
        exact ⟨rfl, b, HF.out⟩

/-- What List has told so far, of the free slots L. -/
def LsRel (b p g n cap t S m : Nat) (V : Int) (c f : Nat → Int) (nx : Nat → Nat) (L : List Nat) (w0 : World) (v s ok : Value) (w : World) : Prop :=
  ∃ (pre suf : List Nat) (k : Nat) (c' : Nat → Int), L = pre ++ suf ∧ Chain nx k suf ∧ k ≤ S ∧ s = .int .i64 (lkF S k) ∧ ok = .bool (lkB S k) ∧ LI w v pre ∧ (∀ i, bk v = some i → w0.heap.size ≤ i) ∧
    Ar w p g n cap c' f ∧ CB c' (m + 1 + pre.length) ∧ c' 2 = c 2 ∧ c' 3 = c 3 ∧ LyB w b V S t ∧ Only p g w0 w

/-- What List tells. -/
def Listed (p g n cap m : Nat) (c f : Nat → Int) (L : List Nat) (w : World) (e : Ending) (w' : World) : Prop :=
  ∃ v c', e = .returned v ∧ LI w' v L ∧ (∀ i, bk v = some i → w.heap.size ≤ i) ∧ Ar w' p g n cap c' f ∧ CB c' (m + 1 + L.length) ∧ c' 2 = c 2 ∧ c' 3 = c 3 ∧ Only p g w w'

theorem Chain.link_le {nx : Nat → Nat} {S : Nat} : ∀ {L : List Nat} {k : Nat}, Chain nx k L → (∀ s ∈ L, s < S) → k ≤ S
  | [], k, h, _ => by have : k = 0 := h; omega
  | s :: L, k, h, hs => by have := h.1; have := hs s (List.mem_cons_self ..); omega

set_option maxHeartbeats 4000000 in
theorem slist_any {w : World} {p g n cap t S m k0 : Nat} {V T : Int} {c f : Nat → Int} {nx : Nat → Nat} {L : List Nat} (hR : Rt V S T) (ht : T = (t : Int)) (A : Ar w p g n cap c f) (hn : t < n) (hn2 : ∀ s, s < S → t + 1 + s * 7 < n) (hm : CB c m) (hb : m ≤ 100000)
    (hk : f t % 65536 = k0) (hf : ∀ s, s < S → f (t + 1 + s * 7) = nx s) (hch : Chain nx k0 L) (hL : ∀ s ∈ L, s < S) (hlen : L.length ≤ S) :
    Calls Try.prog 31 #[.iface 84 (pmV p), vL V S T] w (Listed p g n cap m c f L w) := by
  subst ht
  have ms := methp_load
  have mn := nilp_load
  have s2 := hR.s2
  have n3 : (n : Int) ≤ 16384 := by have := A.few; omega
  have e1 : bits .and .u64 (f t) 65535 = (k0 : Int) := (and_65535 _ (A.fit t hn).1 (by have := (A.fit t hn).2; omega)).trans hk
  have k1 : (k0 : Int) ≤ 1000000 := by omega
  have k2 : 0 ≤ (k0 : Int) := by omega
  have hk0 := hch.link_le hL
  have HR := Lib.hid hR
  have HY := Lib.hid hR.yes
  have HA := Lib.hid A
  have HM := Lib.hid hm
  have HN := Lib.hid hn2
  have HF := Lib.hid hf
  have HC := Lib.hid hch
  have HL := Lib.hid hL
  clear hR A hm hn2 hk hf hch hL
  go_enter Try.func31, Try.ntmps31
  go_wp2_with fail
  have hlb : ∀ W : World, LyB W w.heap.size V S t → W.cell? ⟨w.heap.size, 0, none⟩ = some (.int .i64 V) ∧ W.cell? ⟨w.heap.size, 1, none⟩ = some (.int .i64 S) ∧ W.cell? ⟨w.heap.size, 2, none⟩ = some (.int .i64 (t : Int)) := fun W h => h.cells
  have HL0 : Hid (LyB (w.alloc (.cells #[.int .i64 V, .int .i64 S, .int .i64 (t : Int)] 23)) w.heap.size V S t) := Lib.hid (Blk.new _ _ _)
  have HA0 := Lib.hid (HA.out.alloc (.cells #[.int .i64 V, .int .i64 S, .int .i64 (t : Int)] 23))
  have HO0 := Lib.hid ((Only.refl p g w).alloc (.cells #[.int .i64 V, .int .i64 S, .int .i64 (t : Int)] 23))
  refine (right_any _ _ _ _).mono ?_; rintro e w1 ⟨rfl, hb1⟩; rw [HY.out]
  have HL1 := Lib.hid (HL0.out.below hb1)
  have HA1 := Lib.hid (HA0.out.below hb1 (Nat.le_refl _))
  have HO1 := Lib.hid (HO0.out.trans (Only.of_below hb1))
  clear hb1 HA HL0 HA0 HO0
  go_wp2_with fail
  have hbp : w.heap.size ≠ p := HL1.out.ne_p HA1.out
  have hbg : w.heap.size ≠ g := HL1.out.ne_g HA1.out
  generalize hwb : w.heap.size = b at HL1 hbp hbg hlb ⊢
  obtain ⟨y0, y1, y2⟩ := HL1.out.cells
  have hlt := HL1.out.lt
  have HLd := Lib.hid HL1.out.drew
  have HAd := Lib.hid HA1.out.drew
  have HOd := Lib.hid HO1.out.drew
  go_region_held3 (fun W => LyB W b V S t) (first | (with_reducible assumption) | (with_reducible exact HLd.out) | (with_reducible exact LyB.below (by assumption) hb1) | (with_reducible exact LyB.only (by assumption) (Hid.out (by assumption : Hid (Ar _ p g n cap c f))) O2))
    (first
      | (go_at_call 71; ((with_reducible refine (free_yes V S t HR.out _).mono ?_); rintro e w' ⟨rfl, hb1⟩; have HA' := Lib.hid (Ar.below (Hid.out (by assumption : Hid (Ar _ p g n cap c f))) hb1 (Nat.le_refl _)); have HO' := Lib.hid (Only.trans (Hid.out (by assumption : Hid (Only p g w _))) (Only.of_below hb1))))
      | (go_at_call 70; ((with_reducible refine (linked_any HR.out k2 k1 _).mono ?_); rintro e w4 ⟨rfl, hb1⟩; have HA4 := Lib.hid (Ar.below (Hid.out (by assumption : Hid (Ar _ p g n cap (upd c 0 (c 0 + 1)) f))) hb1 (Nat.le_refl _)); have HO4 := Lib.hid (Only.trans (Hid.out (by assumption : Hid (Only p g w _))) (Only.of_below hb1)); have HL4 := Lib.hid (LyB.below (by assumption) hb1)))
      | ((with_reducible refine (pm_load (Hid.out (by assumption : Hid (Ar _ p g n cap c f))) hn HM.out (by omega)).mono ?_); rintro e w2 ⟨rfl, A2, O2⟩; have HA2 := Lib.hid A2; have HO2 := Lib.hid (Only.trans (Hid.out (by assumption : Hid (Only p g w _))) O2)))
  all_goals
    obtain ⟨y0, y1, y2⟩ := HL4.out.cells
    have hlt4 := HL4.out.lt
    have hRel : Hid (LsRel b p g n cap t S m V c f nx L w (.slice none 0 0) (.int .i64 (lkF S k0)) (.bool (lkB S k0)) w4) :=
      Lib.hid ⟨[], L, k0, _, rfl, HC.out, hk0, rfl, rfl, LI.nil _, fun i hi => by simp [bk] at hi, HA4.out, (HM.out.upd 0).more (by simp), upd_other _ _ (by omega), upd_other _ _ (by omega), HL4.out, HO4.out⟩
    clear HA1 HO1 HL1 HAd HOd HLd HA' HO' HA2 HO2 HA4 HO4 HL4
    generalize lkF S (k0 : Int) = q1 at hRel ⊢
    generalize lkB S (k0 : Int) = q2 at hRel ⊢
    clear e1 k1 k2 hk0 HC HM
    go_wp2_with fail
    go_loopw [5, 6, 7] (fun v s ok wr => LsRel b p g n cap t S m V c f nx L w v s ok wr) (fun v _ _ _ => S - lenV v)
    case atStart => exact hRel.out
    case round =>
      clear hRel y0 y1 y2 hlt4
      obtain ⟨pre, suf, k, c1, hpre, hch, hk, hs, hok, hli, hbk, A, m1, q2', q3', LYs, O⟩ := hrel
      have HC1 := Lib.hid (And.intro q2' q3')
      have HA1 := Lib.hid A
      have HM1 := Lib.hid m1
      have HLY := Lib.hid LYs
      have HO1 := Lib.hid O
      have HLI := Lib.hid hli
      have HBK := Lib.hid hbk
      clear A m1 LYs O hli hbk q2' q3'
      obtain ⟨y0, y1, y2⟩ := HLY.out.cells
      have hltb := HLY.out.lt
      cases suf with
      | nil =>
        have e0 : k = 0 := hch
        subst e0
        have e2 : lkB S ((0 : Nat) : Int) = false := decide_eq_false (by omega)
        rw [e2] at hok
        subst hs hok
        have e3 : pre = L := by rw [hpre, List.append_nil]
        subst e3
        clear hch hpre e2 hk
        go_wp2_with fail
        go_ret
        exact ⟨_, c1, rfl, HLI.out, HBK.out, HA1.out, HM1.out, HC1.out.1, HC1.out.2, HO1.out⟩
      | cons x suf =>
        have hx : k = x + 1 := hch.1
        have hch' := hch.2
        subst hx
        have hxS : x < S := by omega
        have e1 : lkF S ((x + 1 : Nat) : Int) = (x : Int) := by unfold lkF; rw [if_pos ⟨by omega, by omega⟩]; omega
        have e2 : lkB S ((x + 1 : Nat) : Int) = true := decide_eq_true ⟨by omega, by omega⟩
        rw [e1] at hs
        rw [e2] at hok
        subst hs hok
        obtain ⟨ao, vc, rfl, hvl, hvm⟩ := HLI.out.shape
        have hll : pre.length < S := by rw [hpre] at hlen; simp at hlen; omega
        have hll2 : (pre.length : Int) < S := by omega
        have hp2 : L = (pre ++ [x]) ++ suf := by rw [hpre]; simp
        have hp5 : pre.length ≤ 100000 := by omega
        have HP := Lib.hid hp2
        have HCH := Lib.hid hch'
        clear hpre hch hch' e1 e2 hp2 hvl hvm
        go_wp2_with (at_builtin; refine wpList_append_li _ rfl _ _ rfl rfl (HLI.out.alloc _) ⟨wr.heap.size, 0, none⟩ 1 x rfl (cell_new1 _ _ _) hp5 ?_)
        intro v' w2 hli2 hg2 hbk2
        have HA2 : Hid (Ar w2 p g n cap c1 f) := by
          have A := HA1.out.alloc (.cells #[.int .i64 (x : Int)] 3)
          have L := HLI.out.alloc (.cells #[.int .i64 (x : Int)] 3)
          obtain ⟨zs, hz, _⟩ := A.cells
          exact Lib.hid (A.grown hg2 (L.ne_blk A.own (by decide)) (L.ne_blk hz (by decide)))
        have HLY2 : Hid (LyB w2 b V S t) := Lib.hid (Blk.grown (Blk.alloc HLY.out _) hg2 ((HLI.out.alloc (.cells #[.int .i64 (x : Int)] 3)).ne_blk (Blk.alloc HLY.out (.cells #[.int .i64 (x : Int)] 3)) (by decide)))
        have HO2 : Hid (Only p g w w2) := Lib.hid ((HO1.out.alloc _).grown hg2 HBK.out)
        have HB2 : Hid (∀ i, bk v' = some i → w.heap.size ≤ i) := by
          refine Lib.hid fun i hi => ?_
          rcases hbk2 with e | ⟨k, e, hk⟩
          · exact HBK.out i (e ▸ hi)
          · rw [hi] at e; cases e
            have := HO1.out.size
            omega
        have HLI2 := Lib.hid hli2
        clear hli2 hg2 hbk2 HA1 HLI HBK HLY HO1 y0 y1 y2 hltb
        obtain ⟨y0, y1, y2⟩ := HLY2.out.cells
        have hltb := HLY2.out.lt
        obtain ⟨j, hj⟩ : ∃ j : Nat, j = t + 1 + x * 7 := ⟨_, rfl⟩
        have hjn : j < n := by rw [hj]; exact HN.out x hxS
        have e2 : slotF S (t : Int) (x : Int) 0 = (j : Int) := by rw [slotF_in (by omega) (by omega) (by omega) (by omega)]; omega
        have e3 : f j = (nx x : Int) := by rw [hj]; exact HF.out x hxS
        have e4 : nx x ≤ S := HCH.out.link_le (fun s hs => HL.out s (by rw [HP.out]; simp [hs]))
        have k1 : ((nx x : Nat) : Int) ≤ 1000000 := by omega
        have k2 : 0 ≤ ((nx x : Nat) : Int) := by omega
        have HE2 := Lib.hid e2
        have HE3 := Lib.hid e3
        clear e2 e3 hj
        go_wp2_with fail
        have HLd := Lib.hid HLY2.out.drew
        have HAd := Lib.hid HA2.out.drew
        have HOd := Lib.hid HO2.out.drew
        have HId := Lib.hid HLI2.out.drew
        go_region_held3 (fun W => LyB W b V S t) (first | (with_reducible assumption) | (with_reducible exact HLd.out) | (with_reducible exact LyB.below (by assumption) hb1) | (with_reducible exact LyB.only (by assumption) (Hid.out (by assumption : Hid (Ar _ p g n cap c1 f))) O2))
          (first
            | (go_at_call 72; ((with_reducible refine (nextFree_yes V S t (x : Int) HR.out _).mono ?_); rintro e w' ⟨rfl, hb1⟩; rw [HE2.out]; have HA' := Lib.hid (Ar.below (Hid.out (by assumption : Hid (Ar _ p g n cap c1 f))) hb1 (Nat.le_refl _)); have HO' := Lib.hid (Only.trans (Hid.out (by assumption : Hid (Only p g w _))) (Only.of_below hb1)); have HI' := Lib.hid (LI.below (Hid.out (by assumption : Hid (LI _ v' (pre ++ [x])))) hb1)))
            | (go_at_call 70; ((with_reducible refine (linked_any HR.out k2 k1 _).mono ?_); rintro e w4 ⟨rfl, hb1⟩; have HA4 := Lib.hid (Ar.below (Hid.out (by assumption : Hid (Ar _ p g n cap (upd c1 0 (c1 0 + 1)) f))) hb1 (Nat.le_refl _)); have HO4 := Lib.hid (Only.trans (Hid.out (by assumption : Hid (Only p g w _))) (Only.of_below hb1)); have HL4 := Lib.hid (LyB.below (by assumption) hb1); have HI4 := Lib.hid (LI.below (Hid.out (by assumption : Hid (LI _ v' (pre ++ [x])))) hb1)))
            | ((with_reducible refine (pm_load (Hid.out (by assumption : Hid (Ar _ p g n cap c1 f))) hjn HM1.out (by omega)).mono ?_); rintro e w2 ⟨rfl, A2, O2⟩; rw [HE3.out]; have HI' := Lib.hid (LI.onlyA (Hid.out (by assumption : Hid (LI _ v' (pre ++ [x])))) (Hid.out (by assumption : Hid (Ar _ p g n cap c1 f))) O2); have HA2 := Lib.hid A2; have HO2 := Lib.hid (Only.trans (Hid.out (by assumption : Hid (Only p g w _))) O2)))
        all_goals
          have hlen2 : lenV v' = pre.length + 1 := by
            obtain ⟨a', cap', e, _⟩ := HI4.out.shape
            rw [e]; simp [lenV]
          have hRel : Hid (LsRel b p g n cap t S m V c f nx L w v' (.int .i64 (lkF S (nx x))) (.bool (lkB S (nx x))) w4) :=
            Lib.hid ⟨pre ++ [x], suf, nx x, _, HP.out, HCH.out, e4, rfl, rfl, HI4.out, HB2.out, HA4.out, (HM1.out.upd 0).more (by simp; omega), (upd_other _ _ (by omega)).trans HC1.out.1, (upd_other _ _ (by omega)).trans HC1.out.2, HL4.out, HO4.out⟩
          clear A2 O2 HL4 HO4 HI4 HA4 HO2 HA' HO' HI' HAd HOd HLd HId HA2 HLI2 HLY2 HB2 HM1 HC1 y0 y1 y2 HP HCH hb1
          generalize lkF S ((nx x : Nat) : Int) = q3 at hRel ⊢
          generalize lkB S ((nx x : Nat) : Int) = q4 at hRel ⊢
          clear k1 k2 e4 HE2 HE3
          go_wp2_with fail
          go_round
          case rel => exact hRel.out
          case measure => rw [hlen2]; simp only [lenV]; omega

end Go.Proofs.Ytaooglagddphnaa
