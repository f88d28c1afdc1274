/- Ways up and down. -/
import Derived.Test.YtaooglagddphnaaZC
import Derived.Test.YtaooglagddphnaaZB
import Derived.Maps.AppendAt
import Derived.RangeFuncNested
import Derived.RangeFuncBound
import Derived.RangeFuncCalls
import Derived.RangeFuncLeaves
import Derived.Shelf.Abstract
import Derived.Shelf.RegionOpen
import Derived.OwnWalkIn
import Derived.TacticsInMore
import Derived.LoopNIn
import Derived.LoopIn

/- Contracts of up and Root. Printed by wip/tools/trpj.py. -/
namespace Go.Proofs.Ytaooglagddphnaa
open Go.RowKit

set_option maxRecDepth 100000

/-- From a node on the way up has these nodes. -/
def Chn (g : Mg9) (n : Nat) : Nat → List Nat → Prop
  | y, [] => y = 0
  | y, x :: l => y = x ∧ x ≠ 0 ∧ x ≤ n ∧ Chn g n (g x 2) l

section
variable {V S T : Int} {g : Mg9} {w w' w0 : World} {p gb cap m : Nat}
theorem TM.grown {r : Option Nat} (h : TM w V S T p gb cap m g) (hg : w.grownBy w' r) (h1 : r ≠ some p) (h2 : r ≠ some gb) : TM w' V S T p gb cap m g := by
  obtain ⟨c, f, A, C, rl⟩ := h.ar
  exact ⟨h.hR, c, f, A.grown hg h1 h2, C, rl⟩
theorem LI.ne_t {v : Value} {l : List Nat} (h : LI w v l) (A : TM w V S T p gb cap m g) : bk v ≠ some p ∧ bk v ≠ some gb := by
  obtain ⟨⟨_, h3⟩, ⟨_, h4⟩⟩ := A.blk
  exact ⟨h.ne_blk h3 (by decide), h.ne_blk h4 (by decide)⟩
theorem LI.onlyT {v : Value} {l : List Nat} (h : LI w v l) (A : TM w V S T p gb cap m g) (ho : Only p gb w w') : LI w' v l := h.only ho (h.ne_t A).1 (h.ne_t A).2

/-- In the loop of up. -/
def UpRel (w0 : World) (b : Nat) (V S T : Int) (p gb cap m : Nat) (g : Mg9) (l0 : List Nat) (v i : Value) (W : World) : Prop :=
  ∃ done rest y, l0 = done ++ rest ∧ Chn g (nN V S) y rest ∧ i = .int .i64 ((y : Nat) : Int) ∧ LI W v done ∧ (∀ q, bk v = some q → w0.heap.size ≤ q) ∧ TB W b V S T p ∧ TM W V S T p gb cap (m + done.length) g ∧ Only p gb w0 W

/-- What a call that tells a list leaves. -/
def Told (V S T : Int) (p gb cap m : Nat) (g : Mg9) (l : List Nat) (w : World) (e : Ending) (w' : World) : Prop :=
  ∃ v, e = .returned v ∧ LI w' v l ∧ (∀ q, bk v = some q → w.heap.size ≤ q) ∧ TM w' V S T p gb cap m g ∧ Only p gb w w'

set_option maxHeartbeats 2000000 in
theorem tup (A : TM w V S T p gb cap m g) {x : Nat} {l0 : List Nat} (hx : x ≤ nN V S) (hc : Chn g (nN V S) x l0) (hl : l0.length ≤ nN V S) (hm : m ≤ 99990000) :
    Calls Try.prog 136 #[vTr V S T p, .int .i64 (x : Int)] w (Told V S T p gb cap (m + nN V S) g l0 w) := by
  have HX := Lib.hid hx
  have HC := Lib.hid hc
  have HA := Lib.hid A
  have HR := Lib.hid A.hR
  have hn560 := nN_le A.hR
  have HNI := Lib.hid (nN_int A.hR)
  clear A hc hx
  go_enter Try.func136, Try.ntmps136
  go_wp2_with fail
  have HT : Hid (TB (w.alloc (.cells #[.int .i64 V, .int .i64 S, .int .i64 T, .iface 84 (pmV p), .int .i64 1, .int .i64 0] 32)) w.heap.size V S T p) := Lib.hid (TB.new _ _ _ _ _)
  have HA0 := Lib.hid (HA.out.alloc (.cells #[.int .i64 V, .int .i64 S, .int .i64 T, .iface 84 (pmV p), .int .i64 1, .int .i64 0] 32))
  have HO0 := Lib.hid ((Only.refl p gb w).alloc (.cells #[.int .i64 V, .int .i64 S, .int .i64 T, .iface 84 (pmV p), .int .i64 1, .int .i64 0] 32))
  have HBL : Hid (w.heap.size < (w.alloc (.cells #[.int .i64 V, .int .i64 S, .int .i64 T, .iface 84 (pmV p), .int .i64 1, .int .i64 0] 32)).heap.size) := Lib.hid (by simp)
  generalize hwb : w.heap.size = b at HT HBL ⊢
  generalize hW : w.alloc (.cells #[.int .i64 V, .int .i64 S, .int .i64 T, .iface 84 (pmV p), .int .i64 1, .int .i64 0] 32) = W at HT HA0 HO0 HBL ⊢
  clear hW
  have htb := tb_rule b V S T p
  obtain ⟨y0, y1, y2, y3, y4, y5⟩ := HT.out.cells
  have hlt := HT.out.lt
  refine (tnode_any HR.out HX.out p _).mono ?_; rintro e w1 ⟨rfl, hb1⟩
  have HT1 := Lib.hid (HT.out.below hb1)
  have HRel : Hid (UpRel w b V S T p gb cap m g l0 (.slice none 0 0) (.int .i64 (x : Int)) w1) := Lib.hid ⟨[], l0, x, rfl, HC.out, rfl, LI.nil _, fun q hq => by simp [bk] at hq, HT1.out, HA0.out.below hb1, HO0.out.trans (Only.of_below hb1)⟩
  clear hb1 HT HA0 HO0 y0 y1 y2 y3 y4 y5 hlt htb HT1 HX HC
  go_wp2_with fail
  go_loopw [5, 6] (fun v i wr => UpRel w b V S T p gb cap m g l0 v i wr) (fun v _ _ => 1000 - lenV v)
  case atStart => exact HRel.out
  case round =>
    clear HRel
    obtain ⟨done, rest, y, hl0, hch, rfl, hli, hbk, hT, hA, hO⟩ := hrel
    have HLI := Lib.hid hli
    have HBK := Lib.hid hbk
    have HT := Lib.hid hT
    have HA1 := Lib.hid hA
    have HO1 := Lib.hid hO
    clear hli hbk hT hA hO
    obtain ⟨y0, y1, y2, y3, y4, y5⟩ := HT.out.cells
    have hlt := HT.out.lt
    cases rest with
    | nil =>
      have e0 : y = 0 := hch
      subst e0
      rw [List.append_nil] at hl0
      subst hl0
      clear hch
      go_wp2_with fail
      go_ret
      exact ⟨_, rfl, HLI.out, HBK.out, HA1.out.more (by omega), HO1.out⟩
    | cons x rest =>
      obtain ⟨rfl, hx0, hxn, hch'⟩ := hch
      have HXN := Lib.hid hxn
      have HP := Lib.hid (show l0 = (done ++ [y]) ++ rest by rw [hl0]; simp)
      have HCH := Lib.hid hch'
      have hdl : done.length < nN V S := by rw [hl0] at hl; simp at hl; omega
      have hd1 : (done.length : Int) < nd V S := by have := HNI.out; omega
      have hyI : ¬ (y : Int) = 0 := by omega
      have hd5 : done.length ≤ 100000 := by omega
      obtain ⟨ao, vc, rfl, hvl, hvm⟩ := HLI.out.shape
      clear hl0 hch' hxn hvl hvm
      go_wp2_with fail
      refine (nodes_yes V S T HR.out _).mono ?_; rintro e w2 ⟨rfl, hb2⟩
      have HT2 := Lib.hid (HT.out.below hb2)
      have HA2 := Lib.hid (HA1.out.below hb2)
      have HO2 := Lib.hid (HO1.out.trans (Only.of_below hb2))
      have HLI2 := Lib.hid (HLI.out.below hb2)
      clear hb2 HT HA1 HO1 HLI y0 y1 y2 y3 y4 y5 hlt
      go_wp2_with (at_builtin; refine wpList_append_li _ rfl _ _ rfl rfl (HLI2.out.alloc _) ⟨w2.heap.size, 0, none⟩ 1 y rfl (cell_new1 _ _ _) hd5 ?_)
      intro v' w3 hli3 hg3 hbk3
      have HLa := HLI2.out.alloc (.cells #[.int .i64 (y : Int)] 3)
      have HAa := HA2.out.alloc (.cells #[.int .i64 (y : Int)] 3)
      have HA3 := Lib.hid (HAa.grown hg3 (HLa.ne_t HAa).1 (HLa.ne_t HAa).2)
      have HT3 : Hid (TB w3 b V S T p) := Lib.hid (Blk.grown (Blk.alloc HT2.out _) hg3 (HLa.ne_blk (Blk.alloc HT2.out (.cells #[.int .i64 (y : Int)] 3)) (by decide)))
      have HO3 := Lib.hid ((HO2.out.alloc (.cells #[.int .i64 (y : Int)] 3)).grown hg3 HBK.out)
      have HB3 : Hid (∀ q, bk v' = some q → w.heap.size ≤ q) := by
        refine Lib.hid fun q hq => ?_
        rcases hbk3 with e | ⟨k, e, hk⟩
        · exact HBK.out q (e ▸ hq)
        · rw [hq] at e; cases e
          have := HO2.out.size
          omega
      have HLI3 := Lib.hid hli3
      clear hli3 hg3 hbk3 HLa HAa HA2 HT2 HO2 HBK HLI2
      obtain ⟨y0, y1, y2, y3, y4, y5⟩ := HT3.out.cells
      have hlt := HT3.out.lt
      have hlen3 : lenV v' = done.length + 1 := by
        obtain ⟨a', cap', e, _⟩ := HLI3.out.shape
        rw [e]; simp [lenV]
      go_wp2_with fail
      refine (tparent HA3.out HXN.out (by omega)).mono ?_; rintro e w4 ⟨rfl, A4, O4⟩
      have hRel : Hid (UpRel w b V S T p gb cap m g l0 v' (.int .i64 (g y 2 : Int)) w4) :=
        Lib.hid ⟨done ++ [y], rest, g y 2, HP.out, HCH.out, rfl, HLI3.out.onlyT HA3.out O4, HB3.out, HT3.out.only HA3.out O4, by rw [List.length_append, List.length_singleton, ← Nat.add_assoc]; exact A4, HO3.out.trans O4⟩
      clear A4 O4 HA3 HT3 HO3 HB3 HLI3 HP HCH y0 y1 y2 y3 y4 y5 hlt
      generalize g y 2 = z at hRel ⊢
      go_wp2_with fail
      go_roundw
      case rel => exact hRel.out
      case measure => rw [hlen3]; simp only [lenV]; omega

/-- In the loop of Root. -/
def RtRel (l : List Nat) (W0 : World) (k r : Value) (W : World) : Prop :=
  W = W0 ∧ ∃ j, j ≤ l.length ∧ k = .int .i64 ((j : Nat) : Int) ∧ r = .int .i64 ((((0 :: l)[j]?.getD 0 : Nat)) : Int)

end

end Go.Proofs.Ytaooglagddphnaa

/- Contract of Mark. Printed by wip/tools/trpk.py. -/
namespace Go.Proofs.Ytaooglagddphnaa
open Go.RowKit

set_option maxRecDepth 100000

/-- Sums reckoned anew, one behind the other, with the nodes' own marks. -/
def recks (vx : Nat → Bool) : Mg9 → List Nat → Mg9
  | g, [] => g
  | g, y :: l => recks vx (reckG vx g y (oS (g y 6))) l
/-- A node's children's sums are small. -/
structure RkOk (V S : Int) (x : Nat) : Prop where
  x1 : 1 ≤ x
  xN : x ≤ nN V S
def RecksOk (V S : Int) : List Nat → Prop
  | [] => True
  | y :: l => RkOk V S y ∧ RecksOk V S l

section
variable {V S T : Int} {g : Mg9} {w w' w0 : World} {p gb cap m : Nat}
def MkRel (w0 : World) (b : Nat) (V S T : Int) (p gb cap m : Nat) (gE : Mg9) (v : Value) (l : List Nat) (i : Value) (W : World) : Prop :=
  ∃ done rest g1, l = done ++ rest ∧ i = .int .i64 ((done.length : Nat) : Int) ∧ RecksOk V S rest ∧ recks (vxN V) g1 rest = gE ∧ LI W v l ∧ TB W b V S T p ∧ TM W V S T p gb cap (m + 6 * done.length) g1 ∧ Only p gb w0 W

set_option maxHeartbeats 4000000 in
theorem tmark (A : TM w V S T p gb cap m g) {x k : Nat} {on : Bool} {l : List Nat} {g1 : Mg9} (hk : k < 2) (h : RkOk V S x) (hg1 : reckG (vxN V) g x (setB (oS (g x 6)) k on) = g1) (hc : Chn g1 (nN V S) (g1 x 2) l) (hl : l.length ≤ nN V S) (hr : RecksOk V S l) (hm : m ≤ 99980000) :
    Calls Try.prog 123 #[vTr V S T p, .int .i64 (x : Int), .int .i64 (k : Int), .bool on] w (Did V S T p gb cap (m + 7 + 7 * nN V S) (recks (vxN V) g1 l) (.tuple #[]) w) := by
  have hn560 := nN_le A.hR
  have HK := Lib.hid hk
  have HX := Lib.hid h.xN
  have HA := Lib.hid A
  have H := Lib.hid h
  have HC := Lib.hid hc
  have HL := Lib.hid hl
  have HRK := Lib.hid hr
  obtain ⟨s, hs⟩ : ∃ s, g x 6 = s := ⟨_, rfl⟩
  have hol := oS_lt s
  have hbk : ¬ (bt k : Int) = 0 := by unfold bt; split <;> omega
  have hor : bits .or .u64 (oS s : Int) (bt k : Int) = (setB (oS s) k true : Int) := or_bt k hol
  have han : bits .andNot .u64 (oS s : Int) (bt k : Int) = (setB (oS s) k false : Int) := andNot_bt hol hk
  have HB4 : Hid (setB (oS s) k on < 4) := Lib.hid (setB_lt hol hk)
  have HG : Hid (reckG (vxN V) g x (setB (oS s) k on) = g1) := Lib.hid (by rw [← hs]; exact hg1)
  have HS := Lib.hid hs
  have fl := sm_field2 s
  have HM : Hid (m ≤ 100000000) := Lib.hid (by omega)
  have HX1 : Hid (g1 x 2 ≤ nN V S) := Lib.hid (by
    rw [← hg1, reckG_field _ _ _ _ _ (by decide)]; exact (A.b h.xN).1)
  clear A hk h hg1 hc hl hr hs
  have main : ∀ q : Bool, q = on → Calls Try.prog 123 #[vTr V S T p, .int .i64 (x : Int), .int .i64 (k : Int), .bool q] w (Did V S T p gb cap (m + 7 + 7 * nN V S) (recks (vxN V) g1 l) (.tuple #[]) w) := by
    intro q hq
    cases q with
    | true =>
      subst hq
      go_enter Try.func123, Try.ntmps123
      go_wp2_with fail
      have HT : Hid (TB (w.alloc (.cells #[.int .i64 V, .int .i64 S, .int .i64 T, .iface 84 (pmV p), .int .i64 1, .int .i64 0] 32)) w.heap.size V S T p) := Lib.hid (TB.new _ _ _ _ _)
      have HA0 := Lib.hid (HA.out.alloc (.cells #[.int .i64 V, .int .i64 S, .int .i64 T, .iface 84 (pmV p), .int .i64 1, .int .i64 0] 32))
      have HO0 := Lib.hid ((Only.refl p gb w).alloc (.cells #[.int .i64 V, .int .i64 S, .int .i64 T, .iface 84 (pmV p), .int .i64 1, .int .i64 0] 32))
      have HBL : Hid (w.heap.size < (w.alloc (.cells #[.int .i64 V, .int .i64 S, .int .i64 T, .iface 84 (pmV p), .int .i64 1, .int .i64 0] 32)).heap.size) := Lib.hid (by simp)
      generalize hwb : w.heap.size = b at HT HBL ⊢
      generalize hW : w.alloc (.cells #[.int .i64 V, .int .i64 S, .int .i64 T, .iface 84 (pmV p), .int .i64 1, .int .i64 0] 32) = W at HT HA0 HO0 HBL ⊢
      clear hW
      have htb := tb_rule b V S T p
      obtain ⟨y0, y1, y2, y3, y4, y5⟩ := HT.out.cells
      have hlt := HT.out.lt
      have HTd := Lib.hid HT.out.drew
      have HAd := Lib.hid HA0.out.drew
      have HOd := Lib.hid HO0.out.drew
      go_region_held3 (fun W => TB W b V S T p) (first | (with_reducible assumption) | (with_reducible exact TB.below (by assumption) hb1) | (with_reducible exact TB.only (by assumption) (Hid.out (by assumption : Hid (TM _ V S T p gb cap (m) g))) O2) | (with_reducible exact HTd.out))
        (first
          | (go_at_call 95; ((with_reducible refine (tmarkBit HK.out _).mono ?_); rintro e w2 ⟨rfl, rfl⟩))
          | (go_at_call 94; ((with_reducible refine (tsum (Hid.out (by assumption : Hid (TM _ V S T p gb cap (m) g))) HX.out HM.out).mono ?_); rintro e w2 ⟨rfl, A2, O2⟩; have HA1 := Lib.hid A2; have HO1 := Lib.hid (Only.trans (Hid.out (by assumption : Hid (Only p gb w _))) O2); rw [HS.out]; have HT1 := Lib.hid (TB.only (by assumption) (Hid.out (by assumption : Hid (TM _ V S T p gb cap (m) g))) O2))))
      all_goals
        clear hwb HTd HAd HOd HA0 HO0 HT y0 y1 y2 y3 y4 y5 hlt
        obtain ⟨y0, y1, y2, y3, y4, y5⟩ := HT1.out.cells
        have hlt := HT1.out.lt
        go_wp2_with fail
        refine (treckon HA1.out H.out.xN H.out.x1 HB4.out (by omega)).mono ?_; rintro e w3 ⟨rfl, A3, O3⟩; rw [HG.out] at A3
        have HT := Lib.hid (HT1.out.only HA1.out O3)
        have HA0 : Hid (TM w3 V S T p gb cap (m + 6) g1) := Lib.hid A3
        have HO0 := Lib.hid (HO1.out.trans O3)
        clear A3 O3 HT1 HA1 HO1 y0 y1 y2 y3 y4 y5 hlt
        obtain ⟨y0, y1, y2, y3, y4, y5⟩ := HT.out.cells
        have hlt := HT.out.lt
        have HM6 : Hid (m + 6 ≤ 100000000) := Lib.hid (by omega)
        have HM7 : Hid (m + 7 ≤ 99990000) := Lib.hid (by omega)
        go_wp2_with fail
        have HTd := Lib.hid HT.out.drew
        have HAd := Lib.hid HA0.out.drew
        have HOd := Lib.hid HO0.out.drew
        go_region_held3 (fun W => TB W b V S T p) (first | (with_reducible assumption) | (with_reducible exact TB.below (by assumption) hb1) | (with_reducible exact TB.only (by assumption) (Hid.out (by assumption : Hid (TM _ V S T p gb cap (m + 6) g1))) O2) | (with_reducible exact TB.only (by assumption) (Hid.out (by assumption : Hid (TM _ V S T p gb cap (m + 7) g1))) O2) | (with_reducible exact HTd.out))
          (first
            | (go_at_call 137; ((with_reducible refine (tparent (Hid.out (by assumption : Hid (TM _ V S T p gb cap (m + 6) g1))) HX.out HM6.out).mono ?_); rintro e w2 ⟨rfl, A2, O2⟩; have HA2 : Hid (TM w2 V S T p gb cap (m + 7) g1) := Lib.hid A2; have HO2 := Lib.hid (Only.trans (Hid.out (by assumption : Hid (Only p gb w _))) O2)))
            | (go_at_call 136; ((with_reducible refine (tup (Hid.out (by assumption : Hid (TM _ V S T p gb cap (m + 7) g1))) HX1.out HC.out HL.out HM7.out).mono ?_); rintro e w2 ⟨v, rfl, hli, _, A2, O2⟩; obtain ⟨av, vc, rfl, hv1, hv2⟩ := hli.shape; have HLI := Lib.hid hli; have HA3 := Lib.hid A2; have HO3 := Lib.hid (Only.trans (Hid.out (by assumption : Hid (Only p gb w _))) O2); have HT3 := Lib.hid (TB.only (by assumption) (Hid.out (by assumption : Hid (TM _ V S T p gb cap (m + 7) g1))) O2))))
        all_goals
          have HRel : Hid (MkRel w b V S T p gb cap (m + 7 + nN V S) (recks (vxN V) g1 l) (.slice av l.length vc) l (.int .i64 0) _) := Lib.hid ⟨[], l, g1, rfl, rfl, HRK.out, rfl, HLI.out, HT3.out, HA3.out, HO3.out⟩
          clear HT HA0 HO0 HTd HAd HOd HT3 HA3 HO3 HA2 HO2 HLI y0 y1 y2 y3 y4 y5 hlt hv1 hv2 hli A2 O2
          go_wp2_with fail
          go_loopw [37] (fun i wr => MkRel w b V S T p gb cap (m + 7 + nN V S) (recks (vxN V) g1 l) (.slice av l.length vc) l i wr) (fun i _ => l.length - (intOf i).toNat)
          case atStart => exact HRel.out
          case round =>
            clear HRel
            obtain ⟨done, rest, g2, hl0, rfl, hok, hgE, hli, hT, hA, hO⟩ := hrel
            have HT := Lib.hid hT
            have HA0 := Lib.hid hA
            have HO0 := Lib.hid hO
            obtain ⟨y0, y1, y2, y3, y4, y5⟩ := hT.cells
            have hlt := hT.lt
            have HLI := Lib.hid hli
            clear hT hA hO
            have hll := HL.out
            cases rest with
            | nil =>
              rw [List.append_nil] at hl0
              have hge : ((done.length : Nat) : Int) = (l.length : Int) := by rw [hl0]
              have HE : Hid (g2 = recks (vxN V) g1 l) := Lib.hid hgE
              have hd : done.length = l.length := by rw [hl0]
              clear hgE hli hok hl0
              rw [hd] at HA0 ⊢
              clear hge hd
              go_wp2_with fail
              go_end0
              exact ⟨rfl, by rw [← HE.out]; exact HA0.out.more (by omega), HO0.out⟩
            | cons y rest =>
              have hjl : done.length < l.length := by rw [hl0]; simp
              obtain ⟨hyk, hok'⟩ := hok
              obtain ⟨b1, off, cp, e, _, _, _, hcells⟩ := hli.open_ (by intro e; rw [e] at hjl; simp at hjl)
              cases e
              have hcj := hcells done.length y (by rw [hl0]; simp)
              have HYK := Lib.hid hyk
              have HOK := Lib.hid hok'
              have HGE := Lib.hid hgE
              have HL0 := Lib.hid (show l = (done ++ [y]) ++ rest by rw [hl0]; simp)
              obtain ⟨s2, hs2⟩ : ∃ s2, g2 y 6 = s2 := ⟨_, rfl⟩
              have HS2 := Lib.hid hs2
              have fl2 := sm_field2 s2
              have HO4 : Hid (oS s2 < 4) := Lib.hid (oS_lt _)
              obtain ⟨M, hM⟩ : ∃ M, m + 7 + nN V S + 6 * done.length = M := ⟨_, rfl⟩
              have HMM := Lib.hid hM
              rw [hM] at HA0
              have HM1 : Hid (M ≤ 100000000) := Lib.hid (by omega)
              have HM2 : Hid (M + 1 ≤ 99999990) := Lib.hid (by omega)
              have HLId := Lib.hid HLI.out.drew
              clear hcells hl0 hyk hok' hgE hli hs2 hM
              go_wp2_with fail
              have HTd := Lib.hid HT.out.drew
              have HAd := Lib.hid HA0.out.drew
              have HOd := Lib.hid HO0.out.drew
              go_region_held3 (fun W => TB W b V S T p) (first | (with_reducible assumption) | (with_reducible exact TB.below (by assumption) hb1) | (with_reducible exact TB.only (by assumption) (Hid.out (by assumption : Hid (TM _ V S T p gb cap (M) g2))) O2) | (with_reducible exact TB.only (by assumption) (Hid.out (by assumption : Hid (TM _ V S T p gb cap (M + 1) g2))) O2) | (with_reducible exact HTd.out))
                (first
                  | (go_at_call 94; ((with_reducible refine (tsum (Hid.out (by assumption : Hid (TM _ V S T p gb cap M g2))) HYK.out.xN HM1.out).mono ?_); rintro e w2 ⟨rfl, A2, O2⟩; rw [HS2.out]; have HA2 := Lib.hid A2; have HO2 := Lib.hid (Only.trans (Hid.out (by assumption : Hid (Only p gb w _))) O2); have HLI2 := Lib.hid (LI.onlyT HLId.out (Hid.out (by assumption : Hid (TM _ V S T p gb cap M g2))) O2)))
                  | (go_at_call 99; ((with_reducible refine (treckon (Hid.out (by assumption : Hid (TM _ V S T p gb cap (M + 1) g2))) HYK.out.xN HYK.out.x1 HO4.out HM2.out).mono ?_); rintro e w2 ⟨rfl, A2, O2⟩; have HA3 := Lib.hid A2; have HO3 := Lib.hid (Only.trans (Hid.out (by assumption : Hid (Only p gb w _))) O2); have HLI3 := Lib.hid (LI.onlyT HLI2.out (Hid.out (by assumption : Hid (TM _ V S T p gb cap (M + 1) g2))) O2); have HT3 := Lib.hid (TB.only (by assumption) (Hid.out (by assumption : Hid (TM _ V S T p gb cap (M + 1) g2))) O2))))
              all_goals
                go_wp2_with fail
                go_roundw
                case rel => exact ⟨done ++ [y], rest, _, HL0.out, by simp, HOK.out, HGE.out, HLI3.out, HT3.out, by rw [List.length_append, List.length_singleton, HS2.out, show m + 7 + nN V S + 6 * (done.length + 1) = M + 1 + 5 by rw [← HMM.out]; omega]; exact HA3.out, HO3.out⟩
                case measure => simp [intOf]; omega
    | false =>
      subst hq
      go_enter Try.func123, Try.ntmps123
      go_wp2_with fail
      have HT : Hid (TB (w.alloc (.cells #[.int .i64 V, .int .i64 S, .int .i64 T, .iface 84 (pmV p), .int .i64 1, .int .i64 0] 32)) w.heap.size V S T p) := Lib.hid (TB.new _ _ _ _ _)
      have HA0 := Lib.hid (HA.out.alloc (.cells #[.int .i64 V, .int .i64 S, .int .i64 T, .iface 84 (pmV p), .int .i64 1, .int .i64 0] 32))
      have HO0 := Lib.hid ((Only.refl p gb w).alloc (.cells #[.int .i64 V, .int .i64 S, .int .i64 T, .iface 84 (pmV p), .int .i64 1, .int .i64 0] 32))
      have HBL : Hid (w.heap.size < (w.alloc (.cells #[.int .i64 V, .int .i64 S, .int .i64 T, .iface 84 (pmV p), .int .i64 1, .int .i64 0] 32)).heap.size) := Lib.hid (by simp)
      generalize hwb : w.heap.size = b at HT HBL ⊢
      generalize hW : w.alloc (.cells #[.int .i64 V, .int .i64 S, .int .i64 T, .iface 84 (pmV p), .int .i64 1, .int .i64 0] 32) = W at HT HA0 HO0 HBL ⊢
      clear hW
      have htb := tb_rule b V S T p
      obtain ⟨y0, y1, y2, y3, y4, y5⟩ := HT.out.cells
      have hlt := HT.out.lt
      have HTd := Lib.hid HT.out.drew
      have HAd := Lib.hid HA0.out.drew
      have HOd := Lib.hid HO0.out.drew
      go_region_held3 (fun W => TB W b V S T p) (first | (with_reducible assumption) | (with_reducible exact TB.below (by assumption) hb1) | (with_reducible exact TB.only (by assumption) (Hid.out (by assumption : Hid (TM _ V S T p gb cap (m) g))) O2) | (with_reducible exact HTd.out))
        (first
          | (go_at_call 95; ((with_reducible refine (tmarkBit HK.out _).mono ?_); rintro e w2 ⟨rfl, rfl⟩))
          | (go_at_call 94; ((with_reducible refine (tsum (Hid.out (by assumption : Hid (TM _ V S T p gb cap (m) g))) HX.out HM.out).mono ?_); rintro e w2 ⟨rfl, A2, O2⟩; have HA1 := Lib.hid A2; have HO1 := Lib.hid (Only.trans (Hid.out (by assumption : Hid (Only p gb w _))) O2); rw [HS.out]; have HT1 := Lib.hid (TB.only (by assumption) (Hid.out (by assumption : Hid (TM _ V S T p gb cap (m) g))) O2))))
      all_goals
        clear hwb HTd HAd HOd HA0 HO0 HT y0 y1 y2 y3 y4 y5 hlt
        obtain ⟨y0, y1, y2, y3, y4, y5⟩ := HT1.out.cells
        have hlt := HT1.out.lt
        go_wp2_with fail
        refine (treckon HA1.out H.out.xN H.out.x1 HB4.out (by omega)).mono ?_; rintro e w3 ⟨rfl, A3, O3⟩; rw [HG.out] at A3
        have HT := Lib.hid (HT1.out.only HA1.out O3)
        have HA0 : Hid (TM w3 V S T p gb cap (m + 6) g1) := Lib.hid A3
        have HO0 := Lib.hid (HO1.out.trans O3)
        clear A3 O3 HT1 HA1 HO1 y0 y1 y2 y3 y4 y5 hlt
        obtain ⟨y0, y1, y2, y3, y4, y5⟩ := HT.out.cells
        have hlt := HT.out.lt
        have HM6 : Hid (m + 6 ≤ 100000000) := Lib.hid (by omega)
        have HM7 : Hid (m + 7 ≤ 99990000) := Lib.hid (by omega)
        go_wp2_with fail
        have HTd := Lib.hid HT.out.drew
        have HAd := Lib.hid HA0.out.drew
        have HOd := Lib.hid HO0.out.drew
        go_region_held3 (fun W => TB W b V S T p) (first | (with_reducible assumption) | (with_reducible exact TB.below (by assumption) hb1) | (with_reducible exact TB.only (by assumption) (Hid.out (by assumption : Hid (TM _ V S T p gb cap (m + 6) g1))) O2) | (with_reducible exact TB.only (by assumption) (Hid.out (by assumption : Hid (TM _ V S T p gb cap (m + 7) g1))) O2) | (with_reducible exact HTd.out))
          (first
            | (go_at_call 137; ((with_reducible refine (tparent (Hid.out (by assumption : Hid (TM _ V S T p gb cap (m + 6) g1))) HX.out HM6.out).mono ?_); rintro e w2 ⟨rfl, A2, O2⟩; have HA2 : Hid (TM w2 V S T p gb cap (m + 7) g1) := Lib.hid A2; have HO2 := Lib.hid (Only.trans (Hid.out (by assumption : Hid (Only p gb w _))) O2)))
            | (go_at_call 136; ((with_reducible refine (tup (Hid.out (by assumption : Hid (TM _ V S T p gb cap (m + 7) g1))) HX1.out HC.out HL.out HM7.out).mono ?_); rintro e w2 ⟨v, rfl, hli, _, A2, O2⟩; obtain ⟨av, vc, rfl, hv1, hv2⟩ := hli.shape; have HLI := Lib.hid hli; have HA3 := Lib.hid A2; have HO3 := Lib.hid (Only.trans (Hid.out (by assumption : Hid (Only p gb w _))) O2); have HT3 := Lib.hid (TB.only (by assumption) (Hid.out (by assumption : Hid (TM _ V S T p gb cap (m + 7) g1))) O2))))
        all_goals
          have HRel : Hid (MkRel w b V S T p gb cap (m + 7 + nN V S) (recks (vxN V) g1 l) (.slice av l.length vc) l (.int .i64 0) _) := Lib.hid ⟨[], l, g1, rfl, rfl, HRK.out, rfl, HLI.out, HT3.out, HA3.out, HO3.out⟩
          clear HT HA0 HO0 HTd HAd HOd HT3 HA3 HO3 HA2 HO2 HLI y0 y1 y2 y3 y4 y5 hlt hv1 hv2 hli A2 O2
          go_wp2_with fail
          go_loopw [37] (fun i wr => MkRel w b V S T p gb cap (m + 7 + nN V S) (recks (vxN V) g1 l) (.slice av l.length vc) l i wr) (fun i _ => l.length - (intOf i).toNat)
          case atStart => exact HRel.out
          case round =>
            clear HRel
            obtain ⟨done, rest, g2, hl0, rfl, hok, hgE, hli, hT, hA, hO⟩ := hrel
            have HT := Lib.hid hT
            have HA0 := Lib.hid hA
            have HO0 := Lib.hid hO
            obtain ⟨y0, y1, y2, y3, y4, y5⟩ := hT.cells
            have hlt := hT.lt
            have HLI := Lib.hid hli
            clear hT hA hO
            have hll := HL.out
            cases rest with
            | nil =>
              rw [List.append_nil] at hl0
              have hge : ((done.length : Nat) : Int) = (l.length : Int) := by rw [hl0]
              have HE : Hid (g2 = recks (vxN V) g1 l) := Lib.hid hgE
              have hd : done.length = l.length := by rw [hl0]
              clear hgE hli hok hl0
              rw [hd] at HA0 ⊢
              clear hge hd
              go_wp2_with fail
              go_end0
              exact ⟨rfl, by rw [← HE.out]; exact HA0.out.more (by omega), HO0.out⟩
            | cons y rest =>
              have hjl : done.length < l.length := by rw [hl0]; simp
              obtain ⟨hyk, hok'⟩ := hok
              obtain ⟨b1, off, cp, e, _, _, _, hcells⟩ := hli.open_ (by intro e; rw [e] at hjl; simp at hjl)
              cases e
              have hcj := hcells done.length y (by rw [hl0]; simp)
              have HYK := Lib.hid hyk
              have HOK := Lib.hid hok'
              have HGE := Lib.hid hgE
              have HL0 := Lib.hid (show l = (done ++ [y]) ++ rest by rw [hl0]; simp)
              obtain ⟨s2, hs2⟩ : ∃ s2, g2 y 6 = s2 := ⟨_, rfl⟩
              have HS2 := Lib.hid hs2
              have fl2 := sm_field2 s2
              have HO4 : Hid (oS s2 < 4) := Lib.hid (oS_lt _)
              obtain ⟨M, hM⟩ : ∃ M, m + 7 + nN V S + 6 * done.length = M := ⟨_, rfl⟩
              have HMM := Lib.hid hM
              rw [hM] at HA0
              have HM1 : Hid (M ≤ 100000000) := Lib.hid (by omega)
              have HM2 : Hid (M + 1 ≤ 99999990) := Lib.hid (by omega)
              have HLId := Lib.hid HLI.out.drew
              clear hcells hl0 hyk hok' hgE hli hs2 hM
              go_wp2_with fail
              have HTd := Lib.hid HT.out.drew
              have HAd := Lib.hid HA0.out.drew
              have HOd := Lib.hid HO0.out.drew
              go_region_held3 (fun W => TB W b V S T p) (first | (with_reducible assumption) | (with_reducible exact TB.below (by assumption) hb1) | (with_reducible exact TB.only (by assumption) (Hid.out (by assumption : Hid (TM _ V S T p gb cap (M) g2))) O2) | (with_reducible exact TB.only (by assumption) (Hid.out (by assumption : Hid (TM _ V S T p gb cap (M + 1) g2))) O2) | (with_reducible exact HTd.out))
                (first
                  | (go_at_call 94; ((with_reducible refine (tsum (Hid.out (by assumption : Hid (TM _ V S T p gb cap M g2))) HYK.out.xN HM1.out).mono ?_); rintro e w2 ⟨rfl, A2, O2⟩; rw [HS2.out]; have HA2 := Lib.hid A2; have HO2 := Lib.hid (Only.trans (Hid.out (by assumption : Hid (Only p gb w _))) O2); have HLI2 := Lib.hid (LI.onlyT HLId.out (Hid.out (by assumption : Hid (TM _ V S T p gb cap M g2))) O2)))
                  | (go_at_call 99; ((with_reducible refine (treckon (Hid.out (by assumption : Hid (TM _ V S T p gb cap (M + 1) g2))) HYK.out.xN HYK.out.x1 HO4.out HM2.out).mono ?_); rintro e w2 ⟨rfl, A2, O2⟩; have HA3 := Lib.hid A2; have HO3 := Lib.hid (Only.trans (Hid.out (by assumption : Hid (Only p gb w _))) O2); have HLI3 := Lib.hid (LI.onlyT HLI2.out (Hid.out (by assumption : Hid (TM _ V S T p gb cap (M + 1) g2))) O2); have HT3 := Lib.hid (TB.only (by assumption) (Hid.out (by assumption : Hid (TM _ V S T p gb cap (M + 1) g2))) O2))))
              all_goals
                go_wp2_with fail
                go_roundw
                case rel => exact ⟨done ++ [y], rest, _, HL0.out, by simp, HOK.out, HGE.out, HLI3.out, HT3.out, by rw [List.length_append, List.length_singleton, HS2.out, show m + 7 + nN V S + 6 * (done.length + 1) = M + 1 + 5 by rw [← HMM.out]; omega]; exact HA3.out, HO3.out⟩
                case measure => simp [intOf]; omega
  exact main _ rfl
end

end Go.Proofs.Ytaooglagddphnaa

/- Contract of Index. Printed by wip/tools/trpl.py. -/
namespace Go.Proofs.Ytaooglagddphnaa
open Go.RowKit

set_option maxRecDepth 100000

/-- A place, reckoned on the way up. -/
def idxG (g : Mg9) : Nat → Nat → List Nat → Nat
  | i, _, [] => i
  | i, f, y :: l => idxG g (if g y 4 = f then i + (nS (g (g y 3) 6) + 1) else i) y l

section
variable {V S T : Int} {g : Mg9} {w w' w0 : World} {p gb cap m : Nat}
def IxRel (w0 : World) (b : Nat) (V S T : Int) (p gb cap m : Nat) (g : Mg9) (E : Nat) (v : Value) (l : List Nat) (k i f : Value) (W : World) : Prop :=
  ∃ done rest iN fN, l = done ++ rest ∧ k = .int .i64 ((done.length : Nat) : Int) ∧ i = .int .i64 ((iN : Nat) : Int) ∧ f = .int .i64 ((fN : Nat) : Int) ∧ iN ≤ 65536 * (1 + done.length) ∧ idxG g iN fN rest = E ∧ (∀ y ∈ rest, y ≤ nN V S) ∧ LI W v l ∧ TB W b V S T p ∧ TM W V S T p gb cap (m + 3 * done.length) g ∧ Only p gb w0 W

end

end Go.Proofs.Ytaooglagddphnaa

/- Contract of First. Printed by wip/tools/trpm.py. -/
namespace Go.Proofs.Ytaooglagddphnaa
open Go.RowKit

set_option maxRecDepth 100000

theorem sm_field3 (s : Nat) (W : World) : (Instr.field 149 (vSm s) 3).run Try.prog W = .ok (.int .u64 (aS s : Int)) W := by kernel_rfl
theorem hasB_bit (P k : Nat) : hasB P k = decide (P / 2 ^ k % 2 = 1) := rfl
theorem any_hasB {mk : Nat → Nat} {k : Nat} (hk : k < 2) (hm : ∀ x, mk x < 4) (l : List Nat) : l.any (mbit mk k) = hasB (allM mk l) k := (any_bit hk hm l).symm
theorem loose_any {vx : Nat → Bool} {mk : Nat → Nat} {g : Mg9} (hm : ∀ x, mk x < 4) (h0 : ∀ k, g 0 k = 0) {t : Tp} (h : Loose vx mk g t) (hz : t.size < 65536) : aS (g t.root 6) = allM mk t.row := by
  rw [h.sum h0]; exact (sumT_parts hm t hz).2.2

section
variable {V S T : Int} {g : Mg9} {w w' w0 : World} {p gb cap m : Nat}
def FsRel (w0 : World) (b : Nat) (V S T : Int) (p gb cap m : Nat) (g : Mg9) (mk : Nat → Nat) (F q : Nat) (k i : Value) (W : World) : Prop :=
  ∃ j t, j ≤ nN V S ∧ k = .int .i64 ((j : Nat) : Int) ∧ i = .int .i64 ((t.root : Nat) : Int) ∧ Loose (vxN V) mk g t ∧ t.size + j ≤ nN V S ∧ (∀ y ∈ t.row, y ≠ 0 ∧ y ≤ nN V S) ∧ firstR mk q t.row = F ∧ TB W b V S T p ∧ TM W V S T p gb cap (m + 4 * j) g ∧ Only p gb w0 W

theorem root_le {n : Nat} {t : Tp} (h : ∀ y ∈ t.row, y ≠ 0 ∧ y ≤ n) : t.root ≤ n := by
  by_cases h0 : t.root = 0
  · omega
  · exact (h _ (Tp.root_mem h0)).2

end

end Go.Proofs.Ytaooglagddphnaa

/- Ways in memory; contract of wayTo. Printed by wip/tools/trpn.py. -/
namespace Go.Proofs.Ytaooglagddphnaa
open Go.RowKit

set_option maxRecDepth 100000

/-- A side's number. -/
def sd (rt : Bool) : Nat := if rt then 4 else 3
def flF (f : Fr) : List Value := [.int .i64 (f.x : Int), .int .i64 (sd f.rt : Int)]
def flatW (l : List Fr) : List Value := l.flatMap flF
theorem flatW_length : ∀ (l : List Fr), (flatW l).length = l.length * 2
  | [] => rfl
  | f :: l => by have := flatW_length l; unfold flatW at this ⊢; rw [List.flatMap_cons, List.length_append, this]; simp [flF]; omega
theorem flatW_get : ∀ (l : List Fr) {k : Nat} {f : Fr}, l[k]? = some f → (flatW l)[k * 2]? = some (.int .i64 (f.x : Int)) ∧ (flatW l)[k * 2 + 1]? = some (.int .i64 (sd f.rt : Int))
  | [], k, f, h => by simp at h
  | e :: l, 0, f, h => by simp at h; subst h; exact ⟨rfl, rfl⟩
  | e :: l, k + 1, f, h => by
    have ih := flatW_get l (k := k) (f := f) (by simpa using h)
    have e1 : flatW (e :: l) = flF e ++ flatW l := by simp [flatW]
    rw [e1]
    have l2 : (flF e).length = 2 := rfl
    rw [List.getElem?_append_right (by omega), List.getElem?_append_right (by omega), l2, show (k + 1) * 2 - 2 = k * 2 by omega, show (k + 1) * 2 + 1 - 2 = k * 2 + 1 by omega]
    exact ih
theorem flatW_snoc (l : List Fr) (f : Fr) : flatW (l ++ [f]) = flatW l ++ flF f := by simp [flatW]

section
variable {w w' : World} {base : Nat} {v : Value} {l : List Fr}
end

theorem new_0 (w : World) (a b : Value) (t : TypeId) {k : Nat} (hk : k = w.heap.size) : (w.alloc (.cells #[a, b] t)).cell? ((⟨k, 0, none⟩ : Addr).add 0) = some a := by
  subst hk; rw [Addr.add_lit]; exact (Blk.new w t #[a, b]).cell 0
theorem new_1 (w : World) (a b : Value) (t : TypeId) {k : Nat} (hk : k = w.heap.size) : (w.alloc (.cells #[a, b] t)).cell? ((⟨k, 0, none⟩ : Addr).add 1) = some b := by
  subst hk; rw [Addr.add_lit]; exact (Blk.new w t #[a, b]).cell 1
section
variable {V S T : Int} {g : Mg9} {w w' w0 : World} {p gb cap m : Nat}
end

end Go.Proofs.Ytaooglagddphnaa

/- Contracts of Or and wayBetween. Printed by wip/tools/trpo.py. -/
namespace Go.Proofs.Ytaooglagddphnaa
open Go.RowKit

set_option maxRecDepth 100000

/-- The first of two numbers that isn't 0. -/
def or2 (a b : Nat) : Nat := if a = 0 then b else a
def OrRel (a b : Nat) (w0 : World) (k : Value) (W : World) : Prop := W = w0 ∧ (k = .int .i64 0 ∨ (k = .int .i64 1 ∧ a = 0) ∨ (k = .int .i64 2 ∧ a = 0 ∧ b = 0))
section
variable {V S T : Int} {g : Mg9} {w w' w0 : World} {p gb cap m : Nat}
end

end Go.Proofs.Ytaooglagddphnaa

/- slices.Backward over a way: what it hands on. Printed by wip/tools/trpp.py. -/
namespace Go.Proofs.Ytaooglagddphnaa
open Go.RowKit Go.Shelf

attribute [local go_sem] Oper.semAt_some
set_option maxRecDepth 100000

/-- What comes k-th from behind. -/
def bkF (L : List Fr) (j : Nat) : Nat × Fr := (L.length - 1 - j, L[L.length - 1 - j]?.getD ⟨1, false, .nil⟩)
/-- Two blocks lie as they lay. -/
def KpB (b q : Nat) (W W' : World) : Prop := W'.heap[b]? = W.heap[b]? ∧ W'.heap[q]? = W.heap[q]?
theorem KpB.refl (b q : Nat) (W : World) : KpB b q W W := ⟨rfl, rfl⟩
theorem KpB.trans {b q : Nat} {A B C : World} (h : KpB b q A B) (k : KpB b q B C) : KpB b q A C := ⟨k.1.trans h.1, k.2.trans h.2⟩
abbrev encB (x : Nat × Fr) : Array Value := #[.int .i64 (x.1 : Int), vTn x.2.x (sd x.2.rt)]

/-- The block of a way, or another one's where there is none. -/
def wayBlk (v : Value) (b : Nat) : Nat := (v.ownBlock).getD b
end Go.Proofs.Ytaooglagddphnaa
