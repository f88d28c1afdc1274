/- The law's is: there are just the document's edges. -/
import Derived.Test.YtahabfjngeicmaaEkK
namespace Go.Proofs.Ytahabfjngeicmaa
open Go.RowKit

set_option maxRecDepth 100000

section
variable {w w' w0 : World} {base q p gb cap m : Nat} {V S T : Int} {f : Nat → Int} {vl : Value} {ls : List E1} {u v : Nat} {r : Int}
/-- What Find tells. -/
def fndV : Option E1 → Value
  | none => .tuple #[.int .i64 0, .bool false, .bool false]
  | some x => .tuple #[.int .i64 (x.s : Int), .bool x.t, .bool true]
theorem find_none (h : EM w V S T p gb cap m f) (hE : ER V S T f ls) (hu : (u : Int) < V) (hv : (v : Int) < V) (hne : u ≠ v) (hn : ∀ x ∈ ls, ¬ (x.u = min u v ∧ x.v = max u v)) (hm : m ≤ 1000000) :
    Calls Try.prog 28 #[vE V S T p, .int .i64 (u : Int), .int .i64 (v : Int)] w fun e w' => e = .returned (.tuple #[.int .i64 0, .bool false, .bool false]) ∧ EM w' V S T p gb cap (m + 1) f ∧ Only p gb w w' := by
  refine find_no h hu hv hne ?_ hm
  rw [← eC_minmax]
  exact hE.no _ _ (by omega) (by omega) fun e he => hn e he
theorem find_some (h : EM w V S T p gb cap m f) (hE : ER V S T f ls) (hu : (u : Int) < V) (hv : (v : Int) < V) (hne : u ≠ v) {x : E1} (hx : x ∈ ls) (e : x.u = min u v ∧ x.v = max u v) (hm : m ≤ 1000000) :
    Calls Try.prog 28 #[vE V S T p, .int .i64 (u : Int), .int .i64 (v : Int)] w fun e w' => e = .returned (.tuple #[.int .i64 (x.s : Int), .bool x.t, .bool true]) ∧ EM w' V S T p gb cap (m + 1) f ∧ Only p gb w w' := by
  obtain ⟨h1, h2, h3, h4⟩ := hE.ok x hx
  refine find_yes h hu hv hne h3 ?_ hm
  rw [← eC_minmax, ← e.1, ← e.2]
  exact (hE.is x hx).1
/-- A law's state: a play, beside what was there. -/
structure LW11 (w0 W : World) (base q : Nat) (V S T : Int) (p gb cap m : Nat) (f : Nat → Int) (vl : Value) (ls : List E1) : Prop where
  pw : PW W base q V S T p gb cap m f vl ls
  be : Below base w0 W
  ke : ∀ (i : Nat) (cs : Array Value), Blk w0 i 64 cs → Blk W i 64 cs
theorem LW11.below (h : LW11 w0 w base q V S T p gb cap m f vl ls) (hb : Below w.heap.size w w') : LW11 w0 w' base q V S T p gb cap m f vl ls := ⟨h.pw.below hb, h.be.trans (hb.mono h.pw.size), fun i cs hz => (h.ke i cs hz).below hb (h.ke i cs hz).lt⟩
theorem LW11.next {m' : Nat} (h : LW11 w0 w base q V S T p gb cap m f vl ls) (hm : EM w' V S T p gb cap m' f) (ho : Only p gb w w') : LW11 w0 w' base q V S T p gb cap m' f vl ls := ⟨h.pw.next hm ho, Only.below h.be ho h.pw.size h.pw.bp h.pw.bg, fun i cs hz => Blk.em (h.ke i cs hz) h.pw.em ho (by decide) (by decide)⟩
theorem LW11.more {m' : Nat} (h : LW11 w0 w base q V S T p gb cap m f vl ls) (hm : m ≤ m') : LW11 w0 w base q V S T p gb cap m' f vl ls := ⟨h.pw.more hm, h.be, h.ke⟩
theorem LW11.drew (h : LW11 w0 w base q V S T p gb cap m f vl ls) : LW11 w0 w.drew base q V S T p gb cap m f vl ls := h.below (Below.refl _ _).drew
/-- What a region reads that asks for one edge of the list. -/
def IsS (W : World) (q p xb : Nat) (V S T : Int) (vl : Value) (x : E1) : Prop := PB11 W q V S T p vl ∧ Blk W xb 79 #[.int .i64 (x.s : Int), .int .i64 (x.u : Int), .int .i64 (x.v : Int), .int .i64 (x.l : Int), .bool x.t]
theorem IsS.mk' {W : World} {q p xb : Nat} {V S T : Int} {vl : Value} {x : E1} (h1 : PB11 W q V S T p vl) (h2 : Blk W xb 79 #[.int .i64 (x.s : Int), .int .i64 (x.u : Int), .int .i64 (x.v : Int), .int .i64 (x.l : Int), .bool x.t]) : IsS W q p xb V S T vl x := ⟨h1, h2⟩
theorem IsS.rule (q p xb : Nat) (V S T : Int) (vl : Value) (x : E1) : ∀ W : World, IsS W q p xb V S T vl x → (W.cell? ⟨q, 3, none⟩ = some (.int .i64 V) ∧ W.cell? ⟨q, 4, none⟩ = some (.int .i64 S) ∧ W.cell? ⟨q, 5, none⟩ = some (.int .i64 T) ∧ W.cell? ⟨q, 6, none⟩ = some (.iface 95 (pmV p))) ∧
    (W.cell? ⟨xb, 0, none⟩ = some (.int .i64 (x.s : Int)) ∧ W.cell? ⟨xb, 1, none⟩ = some (.int .i64 (x.u : Int)) ∧ W.cell? ⟨xb, 2, none⟩ = some (.int .i64 (x.v : Int)) ∧ W.cell? ⟨xb, 3, none⟩ = some (.int .i64 (x.l : Int)) ∧ W.cell? ⟨xb, 4, none⟩ = some (.bool x.t)) :=
  fun _ h => ⟨⟨Blk.cell h.1 3, Blk.cell h.1 4, Blk.cell h.1 5, Blk.cell h.1 6⟩, h.2.cell 0, h.2.cell 1, h.2.cell 2, h.2.cell 3, h.2.cell 4⟩
/-- In is's loops over vertices: by rows, by columns; then over the list. -/
def IsR1 (w0 : World) (base q : Nat) (V S T : Int) (p gb cap m n : Nat) (f : Nat → Int) (vl : Value) (ls : List E1) (i : Value) (W : World) : Prop :=
  ∃ k, k ≤ n ∧ i = .int .i64 ((k : Nat) : Int) ∧ LW11 w0 W base q V S T p gb cap (m + 10 * k) f vl ls
def IsR2 (w0 : World) (base q : Nat) (V S T : Int) (p gb cap m n : Nat) (f : Nat → Int) (vl : Value) (ls : List E1) (i : Value) (W : World) : Prop :=
  ∃ k, k ≤ n ∧ i = .int .i64 ((k : Nat) : Int) ∧ LW11 w0 W base q V S T p gb cap (m + k) f vl ls
def IsR3 (w0 : World) (base q : Nat) (V S T : Int) (p gb cap m n : Nat) (f : Nat → Int) (vl : Value) (ls : List E1) (i : Value) (W : World) : Prop :=
  ∃ k, k ≤ n ∧ i = .int .i64 ((k : Nat) : Int) ∧ LW11 w0 W base q V S T p gb cap (m + 3 * k) f vl ls
set_option maxHeartbeats 4000000 in
theorem is_any11 (h : LW11 w0 w base q V S T p gb cap m f vl ls) (hE : ER V S T f ls) (hl : ls.length ≤ 1000) (v8 : V ≤ 8) (hm : m ≤ 800000) :
    Calls Try.prog 25 #[.pointer (some ⟨q, 0, none⟩)] w fun e w' => e = .returned (.bool true) ∧ LW11 w0 w' base q V S T p gb cap (m + 80 + 3 * ls.length) f vl ls := by
  obtain ⟨n, hn⟩ : ∃ n : Nat, (n : Int) = V := ⟨V.toNat, by have := h.pw.em.hR.v1; omega⟩
  have n8 : (n : Int) ≤ 8 := by omega
  have HVN := Lib.hid hn
  obtain ⟨av, ac, rfl⟩ := h.pw.ow.slice
  obtain ⟨ln, hln⟩ : ∃ n, ls.length = n := ⟨_, rfl⟩
  have HLN := Lib.hid hln
  have HRel : Hid (IsR1 w0 base q V S T p gb cap m n f (.slice av ls.length ac) ls (.int .i64 0) w) := Lib.hid ⟨0, Nat.zero_le _, rfl, h⟩
  have HE := Lib.hid hE
  obtain ⟨y0, y1, y2, y3, y4, y5, y6, y7⟩ := h.pw.pq.cells
  have qlt := h.pw.pq.lt
  rw [hln] at HRel y7 ⊢
  have lnI : (ln : Int) ≤ 1000 := by omega
  rw [← hn] at y0
  clear h hE hn hln hl
  go_enter Try.func25, Try.ntmps25
  go_wp2_with fail
  clear y0 y1 y2 y3 y4 y5 y6 y7 qlt
  go_loopw [16] (fun i wr => IsR1 w0 base q V S T p gb cap m n f (.slice av ln ac) ls i wr) (fun i _ => n - (intOf i).toNat)
  case atStart => exact HRel.out
  case round =>
    clear HRel
    obtain ⟨u, hu, rfl, hL⟩ := hrel
    have HL := Lib.hid hL
    clear hL
    by_cases hun : u < n
    · have uI : (u : Int) < (n : Int) := by omega
      have u0 : (0 : Int) ≤ (u : Int) := by omega
      obtain ⟨y0, y1, y2, y3, y4, y5, y6, y7⟩ := HL.out.pw.pq.cells
      have qlt := HL.out.pw.pq.lt
      rw [← HVN.out] at y0
      obtain ⟨wO, rfl⟩ : ∃ w1 : World, w1 = wr := ⟨_, rfl⟩
      have HRel2 : Hid (IsR2 w0 base q V S T p gb cap (m + 10 * u) n f (.slice av ln ac) ls (.int .i64 0) wO) := Lib.hid ⟨0, Nat.zero_le _, rfl, HL.out⟩
      go_wp2_with fail
      clear y0 y1 y2 y3 y4 y5 y6 y7 qlt HL
      go_loopw [24] (fun i wr => IsR2 w0 base q V S T p gb cap (m + 10 * u) n f (.slice av ln ac) ls i wr) (fun i _ => n - (intOf i).toNat)
      case atStart => exact HRel2.out
      case round =>
        clear HRel2
        obtain ⟨v, hv, rfl, hL⟩ := hrel
        have HL := Lib.hid hL
        clear hL
        by_cases hvn : v < n
        · have vI : (v : Int) < (n : Int) := by omega
          have v0 : (0 : Int) ≤ (v : Int) := by omega
          obtain ⟨y0, y1, y2, y3, y4, y5, y6, y7⟩ := HL.out.pw.pq.cells
          have qlt := HL.out.pw.pq.lt
          have HM : Hid (m + 10 * u + v ≤ 900000) := Lib.hid (by omega)
          by_cases huv : u = v
          · have e1 : ((u : Int) == (v : Int)) = true := by rw [huv]; exact beq_self_eq_true _
            have HLm := Lib.hid (HL.out.more (m' := m + 10 * u + (v + 1)) (by omega))
            clear huv
            go_wp2_with fail
            exact ⟨⟨v + 1, by omega, by simp, HLm.out⟩, by simp [intOf]; omega⟩
          have e1 : ((u : Int) == (v : Int)) = false := beq_eq_false_iff_ne.2 (by omega)
          have HP : Hid ((u : Int) < V ∧ (v : Int) < V ∧ u ≠ v) := Lib.hid ⟨by have := HVN.out; omega, by have := HVN.out; omega, huv⟩
          clear huv
          go_wp2_with fail
          clear y0 y1 y2 y3 y4 y5 y6 y7 qlt e1
          by_cases hx : ∃ x ∈ ls, x.u = min u v ∧ x.v = max u v
          · obtain ⟨x, hx, ex⟩ := hx
            obtain ⟨i, hi⟩ := List.mem_iff_getElem?.1 hx
            have HX : Hid (ls[i]? = some x ∧ x.u = min u v ∧ x.v = max u v) := Lib.hid ⟨hi, ex⟩
            refine (find_some HL.out.pw.em HE.out HP.out.1 HP.out.2.1 HP.out.2.2 hx ex (Nat.le_trans HM.out (by omega))).mono ?_; rintro e w2 ⟨rfl, A2, O2⟩
            have H2 := Lib.hid (HL.out.next A2 O2)
            clear HL hx ex hi A2 O2
            go_wp2_with fail
            refine (between_yes H2.out.pw.pq H2.out.pw.ow (by rw [HLN.out]; omega) HX.out.1 HX.out.2 fun j y hj hy => HE.out.pair1 hj HX.out.1 (hy.1.trans HX.out.2.1.symm) (hy.2.trans HX.out.2.2.symm)).mono ?_; rintro e w3 ⟨rfl, B3⟩
            have H3 := Lib.hid (H2.out.below B3)
            clear H2 B3
            obtain ⟨y0, y1, y2, y3, y4, y5, y6, y7⟩ := H3.out.pw.pq.cells
            have qlt := H3.out.pw.pq.lt
            obtain ⟨g, c9, e, _, glt, _, z0, z1, z2, z3, z4⟩ := H3.out.pw.ow.at HX.out.1
            injection e with e1 e2 e3
            subst e1 e3
            have iI : (i : Int) < (ln : Int) := by have := (List.getElem?_eq_some_iff.1 HX.out.1).1; have := HLN.out; omega
            have i0 : (0 : Int) ≤ (i : Int) := by omega
            have n1 : ((x.s : Int) != (x.s : Int)) = false := bne_self_eq_false _
            have n2 : (x.t != x.t) = false := bne_self_eq_false _
            clear e2
            go_wp2_with fail
            exact ⟨⟨v + 1, by omega, by simp, H3.out.more (by omega)⟩, by simp [intOf]; omega⟩
          · have HX : Hid (∀ x ∈ ls, ¬ (x.u = min u v ∧ x.v = max u v)) := Lib.hid fun x h1 h2 => hx ⟨x, h1, h2⟩
            refine (find_none HL.out.pw.em HE.out HP.out.1 HP.out.2.1 HP.out.2.2 HX.out (Nat.le_trans HM.out (by omega))).mono ?_; rintro e w2 ⟨rfl, A2, O2⟩
            have H2 := Lib.hid (HL.out.next A2 O2)
            clear HL hx A2 O2
            go_wp2_with fail
            refine (between_no H2.out.pw.pq H2.out.pw.ow (by rw [HLN.out]; omega) HX.out).mono ?_; rintro e w3 ⟨rfl, B3⟩
            have H3 := Lib.hid (H2.out.below B3)
            clear H2 B3
            go_wp2_with fail
            exact ⟨⟨v + 1, by omega, by simp, H3.out.more (by omega)⟩, by simp [intOf]; omega⟩
        · have ek : v = n := by omega
          subst ek
          have kI : ¬ (v : Int) < (v : Int) := by omega
          clear hv hvn
          go_wp2_with fail
          exact ⟨⟨u + 1, by omega, by simp, HL.out.more (by omega)⟩, by simp [intOf]; omega⟩
    · have ek : u = n := by omega
      subst ek
      have kI : ¬ (u : Int) < (u : Int) := by omega
      clear hu hun
      obtain ⟨y0, y1, y2, y3, y4, y5, y6, y7⟩ := HL.out.pw.pq.cells
      have qlt := HL.out.pw.pq.lt
      obtain ⟨wO, rfl⟩ : ∃ w1 : World, w1 = wr := ⟨_, rfl⟩
      have HRel3 : Hid (IsR3 w0 base q V S T p gb cap (m + 80) ln f (.slice av ln ac) ls (.int .i64 0) wO) := Lib.hid ⟨0, Nat.zero_le _, rfl, HL.out.more (by omega)⟩
      go_wp2_with fail
      clear y0 y1 y2 y3 y4 y5 y6 y7 qlt HL
      go_loopw [95] (fun i wr => IsR3 w0 base q V S T p gb cap (m + 80) ln f (.slice av ln ac) ls i wr) (fun i _ => ln - (intOf i).toNat)
      case atStart => exact HRel3.out
      case round =>
        clear HRel3
        obtain ⟨k, hk, rfl, hL⟩ := hrel
        have HL := Lib.hid hL
        clear hL
        by_cases hkn : k < ln
        · obtain ⟨x, hx⟩ : ∃ x, ls[k]? = some x := ⟨_, List.getElem?_eq_getElem (by have := HLN.out; omega)⟩
          have HX := Lib.hid hx
          obtain ⟨g, c9, e, _, glt, _, z0, z1, z2, z3, z4⟩ := HL.out.pw.ow.at hx
          injection e with e1 e2 e3
          subst e1 e3
          have kI : (k : Int) < (ln : Int) := by omega
          have k0 : (0 : Int) ≤ (k : Int) := by omega
          clear hx e2
          go_wp2_with fail
          have HL1 := Lib.hid (HL.out.below ((Below.refl _ _).alloc (Nat.le_refl _) (.cells #[.int .i64 (x.s : Int), .int .i64 (x.u : Int), .int .i64 (x.v : Int), .int .i64 (x.l : Int), .bool x.t] 79)))
          have HB1 : Hid (Blk (wr.alloc (.cells #[.int .i64 (x.s : Int), .int .i64 (x.u : Int), .int .i64 (x.v : Int), .int .i64 (x.l : Int), .bool x.t] 79)) wr.heap.size 79 #[.int .i64 (x.s : Int), .int .i64 (x.u : Int), .int .i64 (x.v : Int), .int .i64 (x.l : Int), .bool x.t]) := Lib.hid (Blk.new _ _ _)
          clear HL z0 z1 z2 z3 z4 glt
          generalize wr.alloc (.cells #[.int .i64 (x.s : Int), .int .i64 (x.u : Int), .int .i64 (x.v : Int), .int .i64 (x.l : Int), .bool x.t] 79) = W1 at HL1 HB1 ⊢
          generalize wr.heap.size = xb at HB1 ⊢
          have HLd := Lib.hid HL1.out.drew
          have HBd := Lib.hid HB1.out.drew
          have HAt := Lib.hid (HE.out.at (List.mem_of_getElem? HX.out))
          obtain ⟨⟨y3, y4, y5, y6⟩, z0, z1, z2, z3, z4⟩ := IsS.rule q p xb V S T _ x _ ⟨HL1.out.pw.pq, HB1.out⟩
          have qlt := HL1.out.pw.pq.lt
          have xlt := HB1.out.lt
          have hrule := IsS.rule q p xb V S T (.slice (some ⟨g, 0, none⟩) ln ac) x
          go_region_held3 (fun W => IsS W q p xb V S T (.slice (some ⟨g, 0, none⟩) ln ac) x) (first | (with_reducible assumption) | (with_reducible exact IsS.mk' H2.out.pw.pq HB2.out) | (with_reducible exact IsS.mk' HLd.out.pw.pq HBd.out))
            (first
              | (go_at_call 29; ((with_reducible refine (get_yes11 HLd.out.pw.em HAt.out (by omega)).mono ?_); rintro e w2 ⟨rfl, A2, O2⟩; have H2 := Lib.hid (HLd.out.next A2 O2); have HB2 := Lib.hid (Blk.em HBd.out HLd.out.pw.em O2 (by decide) (by decide))))
              | fail)
          clear hrule y3 y4 y5 y6 z0 z1 z2 z3 z4 qlt xlt HL1 HB1 HLd HBd
          have b1 : ((x.u : Int) == (x.u : Int)) = true := beq_self_eq_true _
          have b2 : ((x.v : Int) == (x.v : Int)) = true := beq_self_eq_true _
          have b3 : ((x.l : Int) == (x.l : Int)) = true := beq_self_eq_true _
          have b4 : (x.t == x.t) = true := beq_self_eq_true _
          go_wp2_with fail
          exact ⟨⟨k + 1, by omega, by simp, H2.out.more (by omega)⟩, by simp [intOf]; omega⟩
        · have ek : k = ln := by omega
          subst ek
          have kI : ¬ (k : Int) < (k : Int) := by omega
          clear hk hkn
          go_wp2_with fail
          go_ret
          exact ⟨rfl, HL.out⟩
end
end Go.Proofs.Ytahabfjngeicmaa
