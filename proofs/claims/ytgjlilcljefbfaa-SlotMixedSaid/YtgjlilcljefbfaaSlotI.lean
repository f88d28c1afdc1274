/- The contract of List. -/
import Derived.Test.YtgjlilcljefbfaaSlotH
namespace Go.Proofs.Ytgjlilcljefbfaa
open Go.RowKit

set_option maxRecDepth 100000

/-- How long a slice is. -/
def lenV : Value → Nat
  | .slice _ n _ => n
  | _ => 0

theorem cell_new1 (w : World) (x : Value) (t : TypeId) : (w.alloc (.cells #[x] t)).cell? ((⟨w.heap.size, 0, none⟩ : Addr).add 0) = some x := by
  rw [Addr.add_lit]; exact (Blk.new w t #[x]).cell 0

section
variable {w w' w0 : World} {r : Option Nat} {i p g n cap : Nat} {t : TypeId} {cs : Array Value} {c f : Nat → Int}
theorem Blk.grown (h : Blk w i t cs) (hg : w.grownBy w' r) (hne : r ≠ some i) : Blk w' i t cs := (hg.block i h.lt (fun e => hne e.symm)).trans h
theorem Ar.grown (A : Ar w p g n cap c f) (hg : w.grownBy w' r) (h1 : r ≠ some p) (h2 : r ≠ some g) : Ar w' p g n cap c f := by
  obtain ⟨zs, hz, he⟩ := A.cells
  exact ⟨A.own.grown hg h1, ⟨zs, hz.grown hg h2, he⟩, A.le, A.few, A.fit⟩
theorem Only.grown (h : Only p g w0 w) (hg : w.grownBy w' r) (hr : ∀ i, r = some i → w0.heap.size ≤ i) : Only p g w0 w' :=
  ⟨hg.os.trans h.os, hg.tape.trans h.tape, hg.output.trans h.output, Nat.le_trans h.size hg.size, fun i hi h1 h2 => (hg.block i (Nat.lt_of_lt_of_le hi h.size) (fun e => by have := hr i e.symm; omega)).trans (h.block i hi h1 h2)⟩
end

/-- What List has told so far, of the free slots L. -/
def LsRel (b p g n cap t S m : Nat) (V : Int) (c f : Nat → Int) (nx : Nat → Nat) (L : List Nat) (w0 : World) (v s ok : Value) (w : World) : Prop :=
  ∃ (pre suf : List Nat) (k : Nat) (c' : Nat → Int), L = pre ++ suf ∧ Chain nx k suf ∧ k ≤ S ∧ s = .int .i64 (lkF S k) ∧ ok = .bool (lkB S k) ∧ LI w v pre ∧ (∀ i, bk v = some i → w0.heap.size ≤ i) ∧
    Ar w p g n cap c' f ∧ CB c' (m + 1 + pre.length) ∧ c' 2 = c 2 ∧ c' 3 = c 3 ∧ LyB w b V S t ∧ Only p g w0 w

/-- What List tells. -/
def Listed (p g n cap m : Nat) (c f : Nat → Int) (L : List Nat) (w : World) (e : Ending) (w' : World) : Prop :=
  ∃ v c', e = .returned v ∧ LI w' v L ∧ (∀ i, bk v = some i → w.heap.size ≤ i) ∧ Ar w' p g n cap c' f ∧ CB c' (m + 1 + L.length) ∧ c' 2 = c 2 ∧ c' 3 = c 3 ∧ Only p g w w'

theorem Chain.link_le {nx : Nat → Nat} {S : Nat} : ∀ {L : List Nat} {k : Nat}, Chain nx k L → (∀ s ∈ L, s < S) → k ≤ S
  | [], k, h, _ => by have : k = 0 := h; omega
  | s :: L, k, h, hs => by have := h.1; have := hs s (List.mem_cons_self ..); omega

set_option maxHeartbeats 4000000 in
theorem list_any {w : World} {p g n cap t S m k0 : Nat} {V T : Int} {c f : Nat → Int} {nx : Nat → Nat} {L : List Nat} (hR : Rt V S T) (ht : T = (t : Int)) (A : Ar w p g n cap c f) (hn : t < n) (hn2 : ∀ s, s < S → t + 1 + s * 7 < n) (hm : CB c m) (hb : m ≤ 100000)
    (hk : f t % 65536 = k0) (hf : ∀ s, s < S → f (t + 1 + s * 7) = nx s) (hch : Chain nx k0 L) (hL : ∀ s ∈ L, s < S) (hlen : L.length ≤ S) :
    Calls Try.prog 10 #[.iface 31 (pmV p), vL V S T] w (Listed p g n cap m c f L w) := by
  subst ht
  have ms := methp_load
  have mn := nilp_load
  have s2 := hR.s2
  have n3 : (n : Int) ≤ 16384 := by have := A.few; omega
  have e1 : bits .and .u64 (f t) 65535 = (k0 : Int) := (and_65535 _ (A.fit t hn).1 (by have := (A.fit t hn).2; omega)).trans hk
  have k1 : (k0 : Int) ≤ 1000000 := by omega
  have k2 : 0 ≤ (k0 : Int) := by omega
  have hk0 := hch.link_le hL
  have HR := Lib.hid hR
  have HY := Lib.hid hR.yes
  have HA := Lib.hid A
  have HM := Lib.hid hm
  have HN := Lib.hid hn2
  have HF := Lib.hid hf
  have HC := Lib.hid hch
  have HL := Lib.hid hL
  clear hR A hm hn2 hk hf hch hL
  go_enter Try.func10, Try.ntmps10
  go_wp2_with fail
  have hlb : ∀ W : World, LyB W w.heap.size V S t → W.cell? ⟨w.heap.size, 0, none⟩ = some (.int .i64 V) ∧ W.cell? ⟨w.heap.size, 1, none⟩ = some (.int .i64 S) ∧ W.cell? ⟨w.heap.size, 2, none⟩ = some (.int .i64 (t : Int)) := fun W h => h.cells
  have HL0 : Hid (LyB (w.alloc (.cells #[.int .i64 V, .int .i64 S, .int .i64 (t : Int)] 24)) w.heap.size V S t) := Lib.hid (Blk.new _ _ _)
  have HA0 := Lib.hid (HA.out.alloc (.cells #[.int .i64 V, .int .i64 S, .int .i64 (t : Int)] 24))
  have HO0 := Lib.hid ((Only.refl p g w).alloc (.cells #[.int .i64 V, .int .i64 S, .int .i64 (t : Int)] 24))
  refine (right_any _ _ _ _).mono ?_; rintro e w1 ⟨rfl, hb1⟩; rw [HY.out]
  have HL1 := Lib.hid (HL0.out.below hb1)
  have HA1 := Lib.hid (HA0.out.below hb1 (Nat.le_refl _))
  have HO1 := Lib.hid (HO0.out.trans (Only.of_below hb1))
  clear hb1 HA HL0 HA0 HO0
  go_wp2_with fail
  have hbp : w.heap.size ≠ p := HL1.out.ne_p HA1.out
  have hbg : w.heap.size ≠ g := HL1.out.ne_g HA1.out
  generalize hwb : w.heap.size = b at HL1 hbp hbg hlb ⊢
  obtain ⟨y0, y1, y2⟩ := HL1.out.cells
  have hlt := HL1.out.lt
  have HLd := Lib.hid HL1.out.drew
  have HAd := Lib.hid HA1.out.drew
  have HOd := Lib.hid HO1.out.drew
  go_region_held3 (fun W => LyB W b V S t) (first | (with_reducible assumption) | (with_reducible exact HLd.out) | (with_reducible exact LyB.below (by assumption) hb1) | (with_reducible exact LyB.only (by assumption) (Hid.out (by assumption : Hid (Ar _ p g n cap c f))) O2))
    (first
      | (go_at_call 29; ((with_reducible refine (free_yes V S t HR.out _).mono ?_); rintro e w' ⟨rfl, hb1⟩; have HA' := Lib.hid (Ar.below (Hid.out (by assumption : Hid (Ar _ p g n cap c f))) hb1 (Nat.le_refl _)); have HO' := Lib.hid (Only.trans (Hid.out (by assumption : Hid (Only p g w _))) (Only.of_below hb1))))
      | (go_at_call 28; ((with_reducible refine (linked_any HR.out k2 k1 _).mono ?_); rintro e w4 ⟨rfl, hb1⟩; have HA4 := Lib.hid (Ar.below (Hid.out (by assumption : Hid (Ar _ p g n cap (upd c 0 (c 0 + 1)) f))) hb1 (Nat.le_refl _)); have HO4 := Lib.hid (Only.trans (Hid.out (by assumption : Hid (Only p g w _))) (Only.of_below hb1)); have HL4 := Lib.hid (LyB.below (by assumption) hb1)))
      | ((with_reducible refine (pm_load (Hid.out (by assumption : Hid (Ar _ p g n cap c f))) hn HM.out (by omega)).mono ?_); rintro e w2 ⟨rfl, A2, O2⟩; have HA2 := Lib.hid A2; have HO2 := Lib.hid (Only.trans (Hid.out (by assumption : Hid (Only p g w _))) O2)))
  all_goals
    obtain ⟨y0, y1, y2⟩ := HL4.out.cells
    have hlt4 := HL4.out.lt
    have hRel : Hid (LsRel b p g n cap t S m V c f nx L w (.slice none 0 0) (.int .i64 (lkF S k0)) (.bool (lkB S k0)) w4) :=
      Lib.hid ⟨[], L, k0, _, rfl, HC.out, hk0, rfl, rfl, LI.nil _, fun i hi => by simp [bk] at hi, HA4.out, (HM.out.upd 0).more (by simp), upd_other _ _ (by omega), upd_other _ _ (by omega), HL4.out, HO4.out⟩
    clear HA1 HO1 HL1 HAd HOd HLd HA' HO' HA2 HO2 HA4 HO4 HL4
    generalize lkF S (k0 : Int) = q1 at hRel ⊢
    generalize lkB S (k0 : Int) = q2 at hRel ⊢
    clear e1 k1 k2 hk0 HC HM
    go_wp2_with fail
    go_loopw [5, 6, 7] (fun v s ok wr => LsRel b p g n cap t S m V c f nx L w v s ok wr) (fun v _ _ _ => S - lenV v)
    case atStart => exact hRel.out
    case round =>
      clear hRel y0 y1 y2 hlt4
      obtain ⟨pre, suf, k, c1, hpre, hch, hk, hs, hok, hli, hbk, A, m1, q2', q3', LY, O⟩ := hrel
      have HC1 := Lib.hid (And.intro q2' q3')
      have HA1 := Lib.hid A
      have HM1 := Lib.hid m1
      have HLY := Lib.hid LY
      have HO1 := Lib.hid O
      have HLI := Lib.hid hli
      have HBK := Lib.hid hbk
      clear A m1 LY O hli hbk q2' q3'
      obtain ⟨y0, y1, y2⟩ := HLY.out.cells
      have hltb := HLY.out.lt
      cases suf with
      | nil =>
        have e0 : k = 0 := hch
        subst e0
        have e2 : lkB S ((0 : Nat) : Int) = false := decide_eq_false (by omega)
        rw [e2] at hok
        subst hs hok
        have e3 : pre = L := by rw [hpre, List.append_nil]
        subst e3
        clear hch hpre e2 hk
        go_wp2_with fail
        go_ret
        exact ⟨_, c1, rfl, HLI.out, HBK.out, HA1.out, HM1.out, HC1.out.1, HC1.out.2, HO1.out⟩
      | cons x suf =>
        have hx : k = x + 1 := hch.1
        have hch' := hch.2
        subst hx
        have hxS : x < S := by omega
        have e1 : lkF S ((x + 1 : Nat) : Int) = (x : Int) := by unfold lkF; rw [if_pos ⟨by omega, by omega⟩]; omega
        have e2 : lkB S ((x + 1 : Nat) : Int) = true := decide_eq_true ⟨by omega, by omega⟩
        rw [e1] at hs
        rw [e2] at hok
        subst hs hok
        obtain ⟨ao, vc, rfl, hvl, hvm⟩ := HLI.out.shape
        have hll : pre.length < S := by rw [hpre] at hlen; simp at hlen; omega
        have hll2 : (pre.length : Int) < S := by omega
        have hp2 : L = (pre ++ [x]) ++ suf := by rw [hpre]; simp
        have hp5 : pre.length ≤ 100000 := by omega
        have HP := Lib.hid hp2
        have HCH := Lib.hid hch'
        clear hpre hch hch' e1 e2 hp2 hvl hvm
        go_wp2_with (at_builtin; refine wpList_append_li _ rfl _ _ rfl rfl (HLI.out.alloc _) ⟨wr.heap.size, 0, none⟩ 1 x rfl (cell_new1 _ _ _) hp5 ?_)
        intro v' w2 hli2 hg2 hbk2
        have HA2 : Hid (Ar w2 p g n cap c1 f) := by
          have A := HA1.out.alloc (.cells #[.int .i64 (x : Int)] 3)
          have L := HLI.out.alloc (.cells #[.int .i64 (x : Int)] 3)
          obtain ⟨zs, hz, _⟩ := A.cells
          exact Lib.hid (A.grown hg2 (L.ne_blk A.own (by decide)) (L.ne_blk hz (by decide)))
        have HLY2 : Hid (LyB w2 b V S t) := Lib.hid (Blk.grown (Blk.alloc HLY.out _) hg2 ((HLI.out.alloc (.cells #[.int .i64 (x : Int)] 3)).ne_blk (Blk.alloc HLY.out (.cells #[.int .i64 (x : Int)] 3)) (by decide)))
        have HO2 : Hid (Only p g w w2) := Lib.hid ((HO1.out.alloc _).grown hg2 HBK.out)
        have HB2 : Hid (∀ i, bk v' = some i → w.heap.size ≤ i) := by
          refine Lib.hid fun i hi => ?_
          rcases hbk2 with e | ⟨k, e, hk⟩
          · exact HBK.out i (e ▸ hi)
          · rw [hi] at e; cases e
            have := HO1.out.size
            omega
        have HLI2 := Lib.hid hli2
        clear hli2 hg2 hbk2 HA1 HLI HBK HLY HO1 y0 y1 y2 hltb
        obtain ⟨y0, y1, y2⟩ := HLY2.out.cells
        have hltb := HLY2.out.lt
        obtain ⟨j, hj⟩ : ∃ j : Nat, j = t + 1 + x * 7 := ⟨_, rfl⟩
        have hjn : j < n := by rw [hj]; exact HN.out x hxS
        have e2 : slotF S (t : Int) (x : Int) 0 = (j : Int) := by rw [slotF_in (by omega) (by omega) (by omega) (by omega)]; omega
        have e3 : f j = (nx x : Int) := by rw [hj]; exact HF.out x hxS
        have e4 : nx x ≤ S := HCH.out.link_le (fun s hs => HL.out s (by rw [HP.out]; simp [hs]))
        have k1 : ((nx x : Nat) : Int) ≤ 1000000 := by omega
        have k2 : 0 ≤ ((nx x : Nat) : Int) := by omega
        have HE2 := Lib.hid e2
        have HE3 := Lib.hid e3
        clear e2 e3 hj
        go_wp2_with fail
        have HLd := Lib.hid HLY2.out.drew
        have HAd := Lib.hid HA2.out.drew
        have HOd := Lib.hid HO2.out.drew
        have HId := Lib.hid HLI2.out.drew
        go_region_held3 (fun W => LyB W b V S t) (first | (with_reducible assumption) | (with_reducible exact HLd.out) | (with_reducible exact LyB.below (by assumption) hb1) | (with_reducible exact LyB.only (by assumption) (Hid.out (by assumption : Hid (Ar _ p g n cap c1 f))) O2))
          (first
            | (go_at_call 30; ((with_reducible refine (nextFree_yes V S t (x : Int) HR.out _).mono ?_); rintro e w' ⟨rfl, hb1⟩; rw [HE2.out]; have HA' := Lib.hid (Ar.below (Hid.out (by assumption : Hid (Ar _ p g n cap c1 f))) hb1 (Nat.le_refl _)); have HO' := Lib.hid (Only.trans (Hid.out (by assumption : Hid (Only p g w _))) (Only.of_below hb1)); have HI' := Lib.hid (LI.below (Hid.out (by assumption : Hid (LI _ v' (pre ++ [x])))) hb1)))
            | (go_at_call 28; ((with_reducible refine (linked_any HR.out k2 k1 _).mono ?_); rintro e w4 ⟨rfl, hb1⟩; have HA4 := Lib.hid (Ar.below (Hid.out (by assumption : Hid (Ar _ p g n cap (upd c1 0 (c1 0 + 1)) f))) hb1 (Nat.le_refl _)); have HO4 := Lib.hid (Only.trans (Hid.out (by assumption : Hid (Only p g w _))) (Only.of_below hb1)); have HL4 := Lib.hid (LyB.below (by assumption) hb1); have HI4 := Lib.hid (LI.below (Hid.out (by assumption : Hid (LI _ v' (pre ++ [x])))) hb1)))
            | ((with_reducible refine (pm_load (Hid.out (by assumption : Hid (Ar _ p g n cap c1 f))) hjn HM1.out (by omega)).mono ?_); rintro e w2 ⟨rfl, A2, O2⟩; rw [HE3.out]; have HI' := Lib.hid (LI.onlyA (Hid.out (by assumption : Hid (LI _ v' (pre ++ [x])))) (Hid.out (by assumption : Hid (Ar _ p g n cap c1 f))) O2); have HA2 := Lib.hid A2; have HO2 := Lib.hid (Only.trans (Hid.out (by assumption : Hid (Only p g w _))) O2)))
        all_goals
          have hlen2 : lenV v' = pre.length + 1 := by
            obtain ⟨a', cap', e, _⟩ := HI4.out.shape
            rw [e]; simp [lenV]
          have hRel : Hid (LsRel b p g n cap t S m V c f nx L w v' (.int .i64 (lkF S (nx x))) (.bool (lkB S (nx x))) w4) :=
            Lib.hid ⟨pre ++ [x], suf, nx x, _, HP.out, HCH.out, e4, rfl, rfl, HI4.out, HB2.out, HA4.out, (HM1.out.upd 0).more (by simp; omega), (upd_other _ _ (by omega)).trans HC1.out.1, (upd_other _ _ (by omega)).trans HC1.out.2, HL4.out, HO4.out⟩
          clear A2 O2 HL4 HO4 HI4 HA4 HO2 HA' HO' HI' HAd HOd HLd HId HA2 HLI2 HLY2 HB2 HM1 HC1 y0 y1 y2 HP HCH hb1
          generalize lkF S ((nx x : Nat) : Int) = q3 at hRel ⊢
          generalize lkB S ((nx x : Nat) : Int) = q4 at hRel ⊢
          clear k1 k2 e4 HE2 HE3
          go_wp2_with fail
          go_round
          case rel => exact hRel.out
          case measure => rw [hlen2]; simp only [lenV]; omega
end Go.Proofs.Ytgjlilcljefbfaa
