/- Hd: what BiPSound leans on. Printed by wip/tools/slim13.py. -/
import Derived.Test.YtaooglagddphnaaSHc
import Derived.Test.YtaooglagddphnaaSGq
import Derived.Test.YtaooglagddphnaaSHa
import Derived.Test.YtaooglagddphnaaSZF
import Derived.Lib.SmallJoins
import Derived.Deep.Slices
import Derived.Deep.Fields
import Derived.ChangeSame
import Derived.OpenShut

namespace Go.Proofs.Ytaooglagddphnaa
open Go.RowKit

set_option maxRecDepth 100000

/-- A level's rows at the beginning. -/
def rows0 (V : Int) (L n : Nat) : List (List Nat) := (List.range n).map fun v => [Xn V L v]
/-- A level's edges at the beginning. -/
def gr0 (S : Int) : List (Option (Nat × Nat)) := List.replicate S.toNat none
section
variable {V S T : Int} {L s u : Nat}
theorem sing_in {k x : Nat} (h1 : 1 ≤ x) (h2 : x ≤ k) : sgl x ∈ sing k := by
  unfold sing
  exact List.mem_map.2 ⟨x, List.mem_range'.2 ⟨x - 1, by omega, by omega⟩, rfl⟩
theorem rows0_flat (V : Int) (L n : Nat) : (rows0 V L n).flatten = (List.range n).map (Xn V L) := by
  unfold rows0
  induction List.range n with
  | nil => rfl
  | cons x l ih => simp only [List.map_cons, List.flatten_cons, ih]; rfl
theorem rows0_at {n : Nat} (h : u < n) : (rows0 V L n)[u]? = some [Xn V L u] := by
  unfold rows0
  rw [List.getElem?_map, List.getElem?_range h]; rfl
/-- All of a level at the beginning. -/
theorem Lv.zero (hR : Rt V S T) (hL : (L : Int) < lv V) : Lv V S L (sing (nN V S)) (rows0 V L V.toNat) (gr0 S) := by
  refine ⟨⟨(List.range V.toNat).map fun v => ([Xn V L v], []), by simp [rows0, Function.comp_def], fun p hp => ?_, fun s a b => ?_⟩, fun r hr => ?_, ?_, fun u hu => ?_, fun s hs hg d hd => ?_, by simp [gr0]⟩
  · obtain ⟨v, _, rfl⟩ := List.mem_map.1 hp
    exact .one v
  · constructor
    · intro h
      obtain ⟨p, hp, hm⟩ := List.mem_flatMap.1 h
      obtain ⟨v, _, rfl⟩ := List.mem_map.1 hp
      simp at hm
    · intro h
      unfold gr0 at h
      rw [List.getElem?_replicate] at h
      split at h
      · cases h
      · cases h
  · obtain ⟨v, hv, rfl⟩ := List.mem_map.1 hr
    have hv' := List.mem_range.1 hv
    have hvI : (v : Int) < V := by omega
    have := vxI_in hR hL hvI
    exact ⟨sgl (Xn V L v), by rw [Xn_in hvI]; exact sing_in this.1 this.2.1, rfl⟩
  · rw [rows0_flat]
    have hn : (List.range V.toNat).Nodup := List.nodup_range
    unfold List.Nodup at hn ⊢
    rw [List.pairwise_map]
    exact hn.imp fun hne e => hne (Xn_inj hR hL _ _ e)
  · exact ⟨[Xn V L u], List.mem_of_getElem? (rows0_at (u := u) (by omega)), by simp⟩
  · have := arI_in hR hL hs hd
    exact ⟨sgl (An V S L s d), by rw [An_in hs hd]; exact sing_in this.1 this.2.1, rfl⟩
end
section
variable {V S T : Int}
theorem LQ.nil (hR : Rt V S T) : LQ V S T zeroF fun _ _ => [] :=
  ⟨fun _ _ _ => rfl, fun _ _ _ _ => ⟨rfl, 0, rfl, rfl⟩, fun _ _ => List.nodup_nil, fun _ _ _ h => (nomatch h), fun _ _ _ _ _ h => (nomatch h), fun _ _ _ => ⟨0, 0, rfl, by have := hR.s1; omega, rfl, by have := hR.s1; omega⟩, fun x _ _ _ y hy e => by
    have e : (0 : Int) = (y : Int) := e
    omega⟩
theorem MQ.nil : MQ V (fun _ => 0) fun _ _ => [] := fun _ _ _ _ => (show hasB 0 0 = false by decide).trans (by simp)
theorem LK.nil : LK (fun _ _ => []) [] := fun _ _ _ => by simp
theorem Lvs.zero (hR : Rt V S T) : Lvs V S (sing (nN V S)) fun _ => gr0 S := fun _ hL => ⟨_, Lv.zero hR hL⟩
theorem gr0_no (k : Nat) (x : Nat × Nat) : (gr0 S)[k]? ≠ some (some x) := by
  unfold gr0
  rw [List.getElem?_replicate]
  split <;> simp
theorem LG.zero (hR : Rt V S T) : LG V S T zeroF (fun _ => 0) (sing (nN V S)) [] fun _ _ => [] := by
  have h0 : hasB 0 0 = false := by decide
  have h1 : hasB 0 1 = false := by decide
  refine ⟨ER.nil fun _ => rfl, LQ.nil hR, MQ.nil, LK.nil, ⟨_, Lvs.zero hR, fun L hL s a b => ?_⟩, fun L s d _ _ _ => ⟨?_, h0⟩, fun _ _ _ _ => h1⟩
  · constructor
    · intro h; simp [tE] at h
    · intro h; exact absurd h (gr0_no _ _)
  · show hasB 0 1 = true ↔ _
    rw [h1]
    simp
end

section
variable {w w' w0 W : World} {V S T : Int} {p gb cap m base q v l x : Nat} {f f9 : Nat → Int} {g : Mg9} {mk : Nat → Nat} {ts : List Tp} {ls bs : List E1} {qq : Nat → Nat → List Nat} {b : BkV}
theorem lo_cells (hR : Rt V S T) : (∀ a c : Nat, (a : Int) < V → (c : Int) < lv V → (hC V S T a c : Int) < o5 V S T) ∧ ∀ z : Nat, 1 ≤ z → (z : Int) ≤ 2 * S → (pvC S T z : Int) < o5 V S T ∧ (nxC S T z : Int) < o5 V S T := ⟨fun _ _ ha hc => head_o5 hR ha hc, fun _ h1 h2 => ⟨pv_o5 hR h1 h2, nx_o5 hR h1 h2⟩⟩
/-- What is right of the edges, told of a book's cells. -/
theorem sd_of (hG : LG V S T f mk ts bs qq) (hR : Rt V S T) (hF : FI V S g mk ts) (r : Rl V S T f9 g) (hs : ∀ i : Nat, (i : Int) < o5 V S T → rs V S g i = f i) (B : Bk w b (cvF (cellsE V S T) f9)) (hV : b.V = V) (hS : b.S = S) (hT : b.T = T) : Sd13 b (cvF (cellsE V S T) f9) g mk ts bs qq := by
  subst hV hS hT
  have hna : b.na = nN b.V b.S := B.ha
  have lo : ∀ i : Nat, (i : Int) < o5 b.V b.S b.T → cvF (cellsE b.V b.S b.T) f9 i = f i := fun i hi => by
    rw [show cvF (cellsE b.V b.S b.T) f9 i = f9 i from if_pos (o5_cells hR hi), r.rest hR hi, hs i hi]
  have nd : ∀ x k, 1 ≤ x → x ≤ b.na → k < 7 → cvF (cellsE b.V b.S b.T) f9 (cN b.V b.S b.T x k) = f9 (cN b.V b.S b.T x k) := fun x k h1 h2 h3 => if_pos (cN_lt hR h1 (by rw [← hna]; exact h2) h3)
  obtain ⟨l1, l2⟩ := lo_cells hR
  refine ⟨hG.er.beside hR lo, hG.lf.turn ⟨fun a c ha hc => lo _ (l1 a c ha hc), fun z h1 h2 => ⟨lo _ (l2 z h1 h2).1, lo _ (l2 z h1 h2).2⟩⟩, hF, fun x k h1 h2 h3 h4 => ?_, fun x h1 h2 => ⟨fun h => ?_, fun h => ?_⟩, ?_⟩
  · rw [nd x k h1 h2 h4]; exact r.c x k h1 (by omega) h3 (by omega)
  · rw [nd x 2 h1 h2 (by omega)]
    obtain ⟨e1, e2⟩ := r.p x h1 (by omega) (by unfold isP; exact decide_eq_true ⟨by omega, h⟩)
    unfold rN at e2
    rw [if_pos e1] at e2
    exact e2
  · rw [nd x 2 h1 h2 (by omega)]
    exact r.a x h1 (by omega) (by unfold isP; exact decide_eq_false fun e => h e.2)
  · obtain ⟨gr, hV, _⟩ := hG.lf.fo
    exact hV.lv_one hR hF fun z hz => by
      obtain ⟨nm, _, h⟩ := B.al z (by have := nN_int hR; omega)
      exact ⟨nm, h⟩
end
theorem lv8 {V : Int} (v8 : V ≤ 8) : lv V ≤ 4 := by unfold lv; split <;> (try split) <;> (try split) <;> (try split) <;> omega
theorem nN128 {V S T : Int} (hR : Rt V S T) (v8 : V ≤ 8) (s12 : S ≤ 12) : nN V S ≤ 128 := by
  have h1 := nN_int hR
  have h2 := lv8 v8
  have h3 := (lv_bd V).1
  have h4 : lv V * V ≤ 4 * V := Int.mul_le_mul_of_nonneg_right h2 (by have := hR.v1; omega)
  have h5 : S * (lv V * 2) ≤ 12 * (lv V * 2) := Int.mul_le_mul_of_nonneg_right s12 (by omega)
  have h6 : nd V S = lv V * V + S * (lv V * 2) := rfl
  omega
theorem cells1300 {V S T : Int} (hR : Rt V S T) (v8 : V ≤ 8) (s12 : S ≤ 12) : cellsE V S T ≤ 1300 := by
  have h1 := cellsE_int hR
  have h2 := nN128 hR v8 s12
  have h3 := nN_int hR
  have h4 : cn V S T = o5 V S T + nd V S * 7 := by unfold cn o5; omega
  have h5 : o5 V S T = T + 1 + S * 7 + vn V + pr V := rfl
  have h6 := lv8 v8
  have hv := hR.v1
  have h7 : vn V ≤ 32 := by
    have : lv V * V ≤ 4 * V := Int.mul_le_mul_of_nonneg_right h6 (by omega)
    unfold vn; omega
  have h8 : pr V ≤ 28 := by
    have : V * (V - 1) ≤ 8 * (V - 1) := Int.mul_le_mul_of_nonneg_right v8 (by omega)
    unfold pr; omega
  have := hR.t2
  omega
section
variable {w : World} {V S T : Int} {dl x y k : Nat} {d : Nat → Nat} {b : BkV}
theorem bcX_slot (hR : Rt V S T) {s : Nat} (hs : (s : Int) < S) (h1 : 1 ≤ k) (h7 : k < 7) (hx : 1 ≤ x) : bcX V S T dl d x (sC S T s k) = 0 := by
  have e := sC_int hR hs h7
  rw [sC_spec hs h7] at e
  obtain ⟨a, b, c⟩ := o_order hR
  have e3 : o3 S T = T + 1 + S * 7 := rfl
  rw [bcX_low hx (by omega)]
  unfold bcF
  rw [if_neg (by omega), if_neg (by omega), if_pos (by omega), if_neg (by omega)]
theorem bcX_mid (hR : Rt V S T) {i : Nat} (h3 : o3 S T ≤ (i : Int)) (h5 : (i : Int) < o5 V S T) (hx : 1 ≤ x) : bcX V S T dl d x i = 0 := by
  obtain ⟨a, b, c⟩ := o_order hR
  rw [bcX_low hx h5]
  unfold bcF
  rw [if_neg (by omega), if_neg (by omega), if_neg (by omega), if_pos h5]
theorem bcX_lg (hR : Rt V S T) (hx : 1 ≤ x) : LG V S T (bcX V S T dl d x) (fun _ => 0) (sing (nN V S)) [] fun _ _ => [] := by
  refine ⟨⟨fun _ h => (nomatch h), List.Pairwise.nil, fun _ h => (nomatch h), fun u v huv hv _ => ?_⟩, (LG.zero hR).lf.turn ⟨fun a c ha hc => ?_, fun z h1 h2 => ⟨?_, ?_⟩⟩⟩
  · have h1 := eC_lo hR (u := u) (v := v) (by omega) hv (by omega)
    have e : o4 V S T + pr V = o5 V S T := by unfold o4 o5; omega
    have e3 : o4 V S T = o3 S T + vn V := by unfold o4 o3; omega
    have := (sizes hR).vn1
    exact bcX_mid hR (by omega) (by omega) hx
  · have h1 := head_int hR ha hc
    exact bcX_mid hR (by omega) (head_o5 hR ha hc) hx
  · exact bcX_slot hR (by omega) (by omega) (by omega) hx
  · exact bcX_slot hR (by omega) (by omega) (by omega) hx
theorem bcX_cvF (hR : Rt V S T) : cvF (cellsE V S T) (bcX V S T dl d (nN V S + 1)) = bcX V S T dl d (nN V S + 1) := by
  funext i
  unfold cvF
  by_cases h : i < cellsE V S T
  · rw [if_pos h]
  · rw [if_neg h]
    have h1 := cellsE_int hR
    have h2 := nN_int hR
    have h3 : cn V S T = o5 V S T + nd V S * 7 := by unfold cn o5; omega
    unfold bcX
    rw [if_neg (by omega)]
theorem birth_stands (hR : Rt V S T) (h1 : 1 ≤ y) (h2 : y ≤ nN V S) : Stands (vxN V) (fun _ => 0) (gB V S T (bcX V S T dl d (nN V S + 1)) 0) (sgl y) := by
  have h0 : ∀ k, gB V S T (bcX V S T dl d (nN V S + 1)) 0 0 k = 0 := fun k => if_pos rfl
  have hn : ∀ k, k < 7 → bcX V S T dl d (nN V S + 1) (cN V S T y k) = ndF V dl d y k := fun k hk => by rw [bcX_node hR h1 hk, if_pos (by omega)]
  have e2 : gB V S T (bcX V S T dl d (nN V S + 1)) 0 y 2 = 0 := by rw [gB_in h1 h2, if_pos rfl]
  have e3 : gB V S T (bcX V S T dl d (nN V S + 1)) 0 y 3 = 0 := by rw [gB_in h1 h2, if_neg (by decide), if_neg (by decide), if_neg (by decide), hn 3 (by decide)]; rfl
  have e4 : gB V S T (bcX V S T dl d (nN V S + 1)) 0 y 4 = 0 := by rw [gB_in h1 h2, if_neg (by decide), if_neg (by decide), if_neg (by decide), hn 4 (by decide)]; rfl
  have e6 : gB V S T (bcX V S T dl d (nN V S + 1)) 0 y 6 = if vxN V y then 65537 else 1 := by
    rw [gB_in h1 h2, if_neg (by decide), if_neg (by decide), if_neg (by decide), hn 6 (by decide)]
    have := ndF_sum (V := V) (dl := dl) (d := d) (y := y)
    omega
  have eg : aloneG (vxN V) (gB V S T (bcX V S T dl d (nN V S + 1)) 0) y = gB V S T (bcX V S T dl d (nN V S + 1)) 0 := by
    funext z k
    by_cases hz : z = y
    · subst hz
      obtain ⟨a2, a3, a4, a5⟩ := aloneG_own (g := gB V S T (bcX V S T dl d (nN V S + 1)) 0) (x := z) (by omega) (vx := vxN V)
      by_cases k2 : k = 2
      · subst k2; rw [a2, e2]
      · by_cases k3 : k = 3
        · subst k3; rw [a3, e3]
        · by_cases k4 : k = 4
          · subst k4; rw [a4, e4]
          · by_cases k6 : k = 6
            · subst k6; rw [aloneG_sum h0 (by omega), e6]
            · unfold aloneG
              rw [reckG_field _ _ _ _ _ k6, setP_field _ _ _ _ k2, up2_field _ _ _ _ k4, up2_field _ _ _ _ k3]
    · exact aloneG_other _ hz
  have := alone_stands (vx := vxN V) (x := y) (by omega) h0
  rw [eg] at this
  exact this
theorem birth_sd (hR : Rt V S T) (hd : ∀ j, j < dl → d j ≤ 18446744073709551615) (B : Bk w b (bcX V S T dl d (nN V S + 1))) (hV : b.V = V) (hS : b.S = S) (hT : b.T = T) : ∃ g mk ts qq, Sd13 b (bcX V S T dl d (nN V S + 1)) g mk ts [] qq := by
  have h0 : ∀ i, 0 ≤ bcX V S T dl d (nN V S + 1) i := fun i => (bcX_bd hR hd i).1
  have hn : ∀ y k, 1 ≤ y → y ≤ nN V S → k < 7 → bcX V S T dl d (nN V S + 1) (cN V S T y k) = ndF V dl d y k := fun y k h1 h2 hk => by rw [bcX_node hR h1 hk, if_pos (by omega)]
  have r := gB_rl (x := 0) h0 fun y h1 h2 => ⟨(hn y 2 h1 h2 (by decide)).trans rfl, (hn y 3 h1 h2 (by decide)).trans rfl, (hn y 4 h1 h2 (by decide)).trans rfl⟩
  have hF : FI V S (gB V S T (bcX V S T dl d (nN V S + 1)) 0) (fun _ => 0) (sing (nN V S)) := sing_fi fun y h1 h2 => birth_stands hR h1 (by omega)
  have B' := B
  rw [← bcX_cvF hR] at B'
  have := sd_of (bcX_lg (dl := dl) (d := d) (x := nN V S + 1) hR (by omega)) hR hF ⟨r.z, r.c, r.a, r.p, r.b, r.o⟩ (fun i hi => (r.o i (far_node hR hi)).symm) B' hV hS hT
  rw [bcX_cvF hR] at this
  exact ⟨_, _, _, _, this⟩
end

end Go.Proofs.Ytaooglagddphnaa

namespace Go.Proofs.Ytaooglagddphnaa
open Go.RowKit

set_option maxRecDepth 100000

section
variable {w w' : World} {V S T : Int} {dl dc p gb cap m k n : Nat} {d : Nat → Nat} {da : Option Addr} {f : Nat → Int}
/-- Along the cells. -/
def KS15 (w0 : World) (V S T : Int) (p gb cap n : Nat) (f : Nat → Int) (v i : Value) (W : World) : Prop :=
  ∃ k a c, k ≤ n ∧ i = .int .i64 ((k : Nat) : Int) ∧ v = .slice a k c ∧ W.ownsRow w0.heap.size 51 1 (.slice a k c) k (cvL f k) ∧ EM W V S T p gb cap (12000 + k) f ∧ Only p gb w0 W
theorem em_grown (h : EM w V S T p gb cap m f) (h1 : w'.heap[p]? = w.heap[p]?) (h2 : w'.heap[gb]? = w.heap[gb]?) : EM w' V S T p gb cap m f := by
  obtain ⟨hR, c, A, C⟩ := h
  obtain ⟨zs, hz, hc⟩ := A.cells
  exact ⟨hR, c, ⟨h1.trans A.own, ⟨zs, h2.trans hz, hc⟩, A.le, A.few, A.fit⟩, C⟩
theorem only_grown {w0 : World} {o : Option Nat} (h : Only p gb w0 w) (hg : w.grownBy w' o) (hs : ∀ r, o = some r → w0.heap.size ≤ r) : Only p gb w0 w' := by
  refine ⟨hg.os.trans h.os, hg.tape.trans h.tape, hg.output.trans h.output, Nat.le_trans h.size hg.size, fun i hi h1 h2 => (hg.block i (Nat.lt_of_lt_of_le hi h.size) fun e => ?_).trans (h.block i hi h1 h2)⟩
  have := hs i e.symm
  omega
theorem wpList_app15n {w : World} {base n : Nat} {T9 E9 : TypeId} {zv : Value} {by9 : Nat} (hT : Try.prog.underlying T9 = some (.slice E9)) (hE : (Try.prog.info? E9).map (fun i => (i.zero, i.size, i.bytes)) = some (some zv, 1, by9)) (hzv : zv.cells.size = 1) (hby : by9 ≤ 64)
    {ops : Array Oper} {rest : List Oper} {o : Oper} {a : Act} {Q : Exit → Act → World → Prop} (hgd : o.guard = none) (s x : Operand)
    (ho : o.op = .call { callee := .builtin .append, args := #[s, x], argTypes := #[T9, T9] })
    {v : Value} {xs : List Value} (hs : a.eval s = v) (hn : xs.length = n) (h : w.ownsRow base E9 1 v n xs) (u : Value) (hu : u.oneCell' = true) (ad : Addr) (c : Nat) (hx : a.eval x = .slice (some ad) 1 c) (hc : w.cell? (ad.add 0) = some u) (hl : n ≤ 2000) (hb : base ≤ w.heap.size)
    (hK : ∀ v' w', w'.ownsRow base E9 1 v' (n + 1) (xs ++ [u]) → w.grownBy w' v.ownBlock → wpList Try.prog ops Q rest (a.put o.dst v') w') : wpList Try.prog ops Q (o :: rest) a w := by
  subst hn
  refine wpList_app13 hT hE hzv hby hgd s x ho hs h u hu ad c hx hc (Nat.le_trans hl (by decide)) hb fun v' w' h1 h2 => hK v' w' ?_ h2
  rw [List.length_append, List.length_singleton] at h1
  exact h1
theorem bk_only {b : BkV} {cv : Nat → Int} (B : Bk w b cv) (E : EM w V S T p gb cap m f) (h : (b.cb ≠ p ∧ b.cb ≠ gb) ∧ b.ga ≠ p ∧ b.ga ≠ gb) (ho : Only p gb w w') : Bk w' b cv := by
  obtain ⟨_, c, A, _⟩ := E
  obtain ⟨zs, hz, _⟩ := A.cells
  exact ⟨B.hR, B.hc, B.ha, B.wm.keep (ho.block _ B.wm.lt (B.wm.ne_blk A.own) (B.wm.ne_blk hz)), fun k hk => (cell_heap13 (ho.block _ B.lt.1 h.1.1 h.1.2)).trans (B.cs k hk), fun k hk => by
    obtain ⟨m, q2, q3⟩ := B.al k hk
    exact ⟨m, q2.kept (ho.block _ B.lt.2 h.2.1 h.2.2), q3⟩, ⟨Nat.lt_of_lt_of_le B.lt.1 ho.size, Nat.lt_of_lt_of_le B.lt.2 ho.size⟩, B.rg, B.cp⟩
/-- Nothing to be looked at beyond these sizes. -/
theorem lsound_out (V S T : Int) (da : Option Addr) (dl dc : Nat) (h : ¬ (rtB V S T = true ∧ V ≤ 8 ∧ S ≤ 8 ∧ dl ≤ 256)) (w : World) :
    Calls Try.prog 8 #[vL V S T, .slice da dl dc] w fun e w' => e = .returned (.bool true) ∧ Below w.heap.size w w' := by
  have HB0 : Hid (Below w.heap.size w (w.alloc (.cells #[.int .i64 V, .int .i64 S, .int .i64 T] 23))) := Lib.hid ((Below.refl _ _).alloc (Nat.le_refl _) _)
  have HL0 : Hid (Blk (w.alloc (.cells #[.int .i64 V, .int .i64 S, .int .i64 T] 23)) w.heap.size 23 #[.int .i64 V, .int .i64 S, .int .i64 T]) := Lib.hid (Blk.new _ _ _)
  by_cases hr : rtB V S T = true
  · have HRB := Lib.hid hr
    by_cases hv : 8 < V
    · clear h hr
      go_enter Try.func8, Try.ntmps8
      go_wp2_with fail
      generalize w.heap.size = lb at HL0 ⊢
      generalize w.alloc (.cells #[.int .i64 V, .int .i64 S, .int .i64 T] 23) = w1 at HB0 HL0 ⊢
      refine (ref15 V S T _).mono ?_; rintro e w2 ⟨rfl, hb2⟩
      have HL2 := Lib.hid (HL0.out.below hb2 HL0.out.lt)
      have HB2 := Lib.hid (HB0.out.trans (hb2.mono HB0.out.size))
      clear HL0 HB0 hb2
      go_wp2_with fail
      refine (rright_any V S T _).mono ?_; rintro e w3 ⟨rfl, hb3⟩; rw [HRB.out]
      have HL3 := Lib.hid (HL2.out.below hb3 HL2.out.lt)
      have HB3 := Lib.hid (HB2.out.trans (hb3.mono HB2.out.size))
      clear HL2 HB2 hb3
      have l0 : w3.cell? ⟨lb, 0, none⟩ = some (.int .i64 V) := HL3.out.cell 0
      have l1 : w3.cell? ⟨lb, 1, none⟩ = some (.int .i64 S) := HL3.out.cell 1
      have l2 : w3.cell? ⟨lb, 2, none⟩ = some (.int .i64 T) := HL3.out.cell 2
      have llt := HL3.out.lt
      go_wp2_with fail
      refine (awake15 _).mono ?_; rintro e w4 ⟨rfl, hb4⟩
      have HB4 := Lib.hid (HB3.out.trans (hb4.mono HB3.out.size))
      go_wp2_with fail
      go_ret
      exact ⟨rfl, HB4.out⟩
    · by_cases hs : 8 < S
      · clear h hr
        go_enter Try.func8, Try.ntmps8
        go_wp2_with fail
        generalize w.heap.size = lb at HL0 ⊢
        generalize w.alloc (.cells #[.int .i64 V, .int .i64 S, .int .i64 T] 23) = w1 at HB0 HL0 ⊢
        refine (ref15 V S T _).mono ?_; rintro e w2 ⟨rfl, hb2⟩
        have HL2 := Lib.hid (HL0.out.below hb2 HL0.out.lt)
        have HB2 := Lib.hid (HB0.out.trans (hb2.mono HB0.out.size))
        clear HL0 HB0 hb2
        go_wp2_with fail
        refine (rright_any V S T _).mono ?_; rintro e w3 ⟨rfl, hb3⟩; rw [HRB.out]
        have HL3 := Lib.hid (HL2.out.below hb3 HL2.out.lt)
        have HB3 := Lib.hid (HB2.out.trans (hb3.mono HB2.out.size))
        clear HL2 HB2 hb3
        have l0 : w3.cell? ⟨lb, 0, none⟩ = some (.int .i64 V) := HL3.out.cell 0
        have l1 : w3.cell? ⟨lb, 1, none⟩ = some (.int .i64 S) := HL3.out.cell 1
        have l2 : w3.cell? ⟨lb, 2, none⟩ = some (.int .i64 T) := HL3.out.cell 2
        have llt := HL3.out.lt
        go_wp2_with fail
        refine (awake15 _).mono ?_; rintro e w4 ⟨rfl, hb4⟩
        have HB4 := Lib.hid (HB3.out.trans (hb4.mono HB3.out.size))
        go_wp2_with fail
        go_ret
        exact ⟨rfl, HB4.out⟩
      · have hd : (256 : Int) < (dl : Int) := by
          rcases Nat.lt_or_ge 256 dl with q | q
          · omega
          · exact absurd ⟨hr, by omega, by omega, q⟩ h
        clear h hr
        go_enter Try.func8, Try.ntmps8
        go_wp2_with fail
        generalize w.heap.size = lb at HL0 ⊢
        generalize w.alloc (.cells #[.int .i64 V, .int .i64 S, .int .i64 T] 23) = w1 at HB0 HL0 ⊢
        refine (ref15 V S T _).mono ?_; rintro e w2 ⟨rfl, hb2⟩
        have HL2 := Lib.hid (HL0.out.below hb2 HL0.out.lt)
        have HB2 := Lib.hid (HB0.out.trans (hb2.mono HB0.out.size))
        clear HL0 HB0 hb2
        go_wp2_with fail
        refine (rright_any V S T _).mono ?_; rintro e w3 ⟨rfl, hb3⟩; rw [HRB.out]
        have HL3 := Lib.hid (HL2.out.below hb3 HL2.out.lt)
        have HB3 := Lib.hid (HB2.out.trans (hb3.mono HB2.out.size))
        clear HL2 HB2 hb3
        have l0 : w3.cell? ⟨lb, 0, none⟩ = some (.int .i64 V) := HL3.out.cell 0
        have l1 : w3.cell? ⟨lb, 1, none⟩ = some (.int .i64 S) := HL3.out.cell 1
        have l2 : w3.cell? ⟨lb, 2, none⟩ = some (.int .i64 T) := HL3.out.cell 2
        have llt := HL3.out.lt
        go_wp2_with fail
        refine (awake15 _).mono ?_; rintro e w4 ⟨rfl, hb4⟩
        have HB4 := Lib.hid (HB3.out.trans (hb4.mono HB3.out.size))
        go_wp2_with fail
        go_ret
        exact ⟨rfl, HB4.out⟩
  · have HRB : Hid (rtB V S T = false) := Lib.hid (by simpa using hr)
    clear h hr
    go_enter Try.func8, Try.ntmps8
    go_wp2_with fail
    generalize w.heap.size = lb at HL0 ⊢
    generalize w.alloc (.cells #[.int .i64 V, .int .i64 S, .int .i64 T] 23) = w1 at HB0 HL0 ⊢
    refine (ref15 V S T _).mono ?_; rintro e w2 ⟨rfl, hb2⟩
    have HL2 := Lib.hid (HL0.out.below hb2 HL0.out.lt)
    have HB2 := Lib.hid (HB0.out.trans (hb2.mono HB0.out.size))
    clear HL0 HB0 hb2
    go_wp2_with fail
    refine (rright_any V S T _).mono ?_; rintro e w3 ⟨rfl, hb3⟩; rw [HRB.out]
    have HL3 := Lib.hid (HL2.out.below hb3 HL2.out.lt)
    have HB3 := Lib.hid (HB2.out.trans (hb3.mono HB2.out.size))
    clear HL2 HB2 hb3
    have l0 : w3.cell? ⟨lb, 0, none⟩ = some (.int .i64 V) := HL3.out.cell 0
    have l1 : w3.cell? ⟨lb, 1, none⟩ = some (.int .i64 S) := HL3.out.cell 1
    have l2 : w3.cell? ⟨lb, 2, none⟩ = some (.int .i64 T) := HL3.out.cell 2
    have llt := HL3.out.lt
    go_wp2_with fail
    refine (awake15 _).mono ?_; rintro e w4 ⟨rfl, hb4⟩
    have HB4 := Lib.hid (HB3.out.trans (hb4.mono HB3.out.size))
    go_wp2_with fail
    go_ret
    exact ⟨rfl, HB4.out⟩
set_option maxHeartbeats 8000000 in
theorem lsound_in (V S T : Int) (da : Option Addr) (dl dc : Nat) (d : Nat → Nat) (hR : Rt V S T) (v8 : V ≤ 8) (s8 : S ≤ 8) (hdl : dl ≤ 256) (w : World) (hD : IsNum w da dl d) :
    Calls Try.prog 8 #[vL V S T, .slice da dl dc] w fun e w' => e = .returned (.bool true) ∧ Below w.heap.size w w' := by
  have HB0 : Hid (Below w.heap.size w (w.alloc (.cells #[.int .i64 V, .int .i64 S, .int .i64 T] 23))) := Lib.hid ((Below.refl _ _).alloc (Nat.le_refl _) _)
  have HL0 : Hid (Blk (w.alloc (.cells #[.int .i64 V, .int .i64 S, .int .i64 T] 23)) w.heap.size 23 #[.int .i64 V, .int .i64 S, .int .i64 T]) := Lib.hid (Blk.new _ _ _)
  have HR := Lib.hid hR
  have HRB := Lib.hid hR.yes
  have HD0 := Lib.hid hD
  have H256 := Lib.hid hdl
  have hv : ¬ 8 < V := by omega
  have hs : ¬ 8 < S := by omega
  have hd2 : ¬ (256 : Int) < (dl : Int) := by omega
  have hd : ∀ j, j < dl → d j ≤ 18446744073709551615 := fun j hj => by
    obtain ⟨_, _, _, h⟩ := hD (by omega)
    exact (h j hj).2
  have HDD := Lib.hid hd
  have s1 := hR.s1
  obtain ⟨n, hn⟩ : ∃ k, cellsE V S T = k := ⟨_, rfl⟩
  have HN := Lib.hid hn
  have hcn : cn V S T = (n : Int) := by rw [← hn]; exact (cellsE_int hR).symm
  have HCN := Lib.hid hcn
  have n1300 : n ≤ 1300 := by rw [← hn]; exact cells1300 hR v8 (by omega)
  have nI : (n : Int) ≤ 1300 := by omega
  have n1 : 0 < n := by
    have := o5_bd hR
    have := (sizes hR).nd1
    have e3 : cn V S T = o5 V S T + nd V S * 7 := by unfold cn o5; omega
    omega
  have HV8 := Lib.hid (And.intro v8 s8)
  clear hR hD hdl hd hn hcn
  go_enter Try.func8, Try.ntmps8
  go_wp2_with fail
  generalize w.heap.size = lb at HL0 ⊢
  generalize w.alloc (.cells #[.int .i64 V, .int .i64 S, .int .i64 T] 23) = w1 at HB0 HL0 ⊢
  refine (ref15 V S T _).mono ?_; rintro e w2 ⟨rfl, hb2⟩
  have HL2 := Lib.hid (HL0.out.below hb2 HL0.out.lt)
  have HB2 := Lib.hid (HB0.out.trans (hb2.mono HB0.out.size))
  clear HL0 HB0 hb2
  go_wp2_with fail
  refine (rright_any V S T _).mono ?_; rintro e w3 ⟨rfl, hb3⟩; rw [HRB.out]
  have HL3 := Lib.hid (HL2.out.below hb3 HL2.out.lt)
  have HB3 := Lib.hid (HB2.out.trans (hb3.mono HB2.out.size))
  clear HL2 HB2 hb3
  have l0 : w3.cell? ⟨lb, 0, none⟩ = some (.int .i64 V) := HL3.out.cell 0
  have l1 : w3.cell? ⟨lb, 1, none⟩ = some (.int .i64 S) := HL3.out.cell 1
  have l2 : w3.cell? ⟨lb, 2, none⟩ = some (.int .i64 T) := HL3.out.cell 2
  have llt := HL3.out.lt
  go_wp2_with fail
  refine (new_born HR.out (HD0.out.below HB3.out) H256.out).mono ?_; rintro e w4 ⟨p, gb, cap, rfl, hE, hp, hg, hb4⟩
  have HL4 := Lib.hid (HL3.out.below hb4 HL3.out.lt)
  have HB4 := Lib.hid (HB3.out.trans (hb4.mono HB3.out.size))
  obtain ⟨F, hF⟩ : ∃ F, bcX V S T dl d (nN V S + 1) = F := ⟨_, rfl⟩
  have HF := Lib.hid hF
  rw [hF] at hE
  have HE4 := Lib.hid hE
  have HPG : Hid (w.heap.size ≤ p ∧ w.heap.size ≤ gb) := Lib.hid ⟨Nat.le_trans HB3.out.size hp, Nat.le_trans HB3.out.size hg⟩
  clear HL3 HB3 hb4 hE hp hg hF l0 l1 l2 llt
  have l0 : w4.cell? ⟨lb, 0, none⟩ = some (.int .i64 V) := HL4.out.cell 0
  have l1 : w4.cell? ⟨lb, 1, none⟩ = some (.int .i64 S) := HL4.out.cell 1
  have l2 : w4.cell? ⟨lb, 2, none⟩ = some (.int .i64 T) := HL4.out.cell 2
  have llt := HL4.out.lt
  go_wp2_with fail
  refine (cells_yes V S T HR.out _).mono ?_; rintro e W0 ⟨rfl, hb5⟩; rw [HCN.out]
  have HL5 := Lib.hid (HL4.out.below hb5 HL4.out.lt)
  have HB5 := Lib.hid (HB4.out.trans (hb5.mono HB4.out.size))
  have HE5 := Lib.hid (HE4.out.below hb5)
  have HPL : Hid (p < W0.heap.size ∧ gb < W0.heap.size) := Lib.hid ⟨HE5.out.p_lt, HE5.out.g_lt⟩
  clear HL4 HB4 HE4 hb5 l0 l1 l2 llt
  have HE50 := HE5
  have HREL : Hid (KS15 W0 V S T p gb cap n F (.slice none 0 0) (.int .i64 0) W0) := Lib.hid ⟨0, none, 0, Nat.zero_le _, rfl, rfl, World.ownsRow_nil _ _ _ _, HE5.out, Only.refl _ _ _⟩
  clear HE5
  go_wp2_with fail
  go_loopw [7, 51] (fun v i wr => KS15 W0 V S T p gb cap n F v i wr) (fun _ i _ => n - (intOf i).toNat)
  case atStart => exact HREL.out
  case round =>
    clear HREL
    obtain ⟨k, ra, rc, hk, rfl, rfl, hr, he, ho⟩ := hrel
    have HRW := Lib.hid hr
    have HE := Lib.hid he
    have HO := Lib.hid ho
    clear hr he ho
    by_cases hkn : k < n
    · as_aux_lemma =>
      have HKN : Hid (k < cellsE V S T) := Lib.hid (by rw [HN.out]; exact hkn)
      have HK1 : Hid (k + 1 ≤ n) := Lib.hid hkn
      have kI : (k : Int) < (n : Int) := by omega
      have k0 : (0 : Int) ≤ (k : Int) := by omega
      go_wp2_with fail
      refine (em_aload HE.out HKN.out (by omega) rfl).mono ?_; rintro e w3 ⟨rfl, hE3, hO3⟩
      have HE3 := Lib.hid hE3
      have HR3 : Hid (w3.ownsRow W0.heap.size 51 1 (.slice ra k rc) k (cvL F k)) := Lib.hid (own_keep15 HRW.out fun i hi => by
        have h1 := World.ownsRow.lt HRW.out i hi
        have h2 := HPL.out
        exact hO3.block i h1.2 (by omega) (by omega))
      have HO3 := Lib.hid (HO.out.trans hO3)
      clear HRW HE HO hE3 hO3
      have HS3 : Hid (W0.heap.size ≤ w3.heap.size) := Lib.hid HO3.out.size
      go_wp2_with (at_builtin; go_loud (refine wpList_app15n (n := k) (base := W0.heap.size) (v := .slice ra k rc) (xs := cvL F k) Try.underlying62 info_u64 rfl (by decide) rfl _ _ rfl rfl cvL_len (World.ownsRow.alloc HR3.out _) (.int .u64 (F k)) rfl ⟨w3.heap.size, 0, none⟩ 1 rfl (cell_new1 _ _ _) (by have := HK1.out; omega) (Nat.le_trans HS3.out (by simp)) ?_))
      intro v5 w5 hu5 hg5
      obtain ⟨a5, c5, e5⟩ := own_slice15 hu5
      subst e5
      have hra := World.ownsRow.alloc HR3.out (.cells #[.int .u64 (F k)] 51)
      have hlt : ∀ i, i < w3.heap.size → i < (w3.alloc (.cells #[.int .u64 (F k)] 51)).heap.size := fun i hi => by simp; omega
      have hold : ∀ i, i < W0.heap.size → w5.heap[i]? = w3.heap[i]? := fun i hi => by
        have hi3 : i < w3.heap.size := Nat.lt_of_lt_of_le hi HS3.out
        refine (hg5.block i (hlt i hi3) fun e => ?_).trans (Below.refl w3.heap.size w3 |>.alloc (Nat.le_refl _) (.cells #[.int .u64 (F k)] 51) |>.block i hi3)
        have h1 := (World.ownsRow.lt hra i e.symm).1
        omega
      have HN5 : Hid (KS15 W0 V S T p gb cap n F (.slice a5 (k + 1) c5) (.int .i64 ((k : Int) + 1)) w5) := Lib.hid ⟨k + 1, a5, c5, HK1.out, by simp, rfl, by rw [cvL_succ]; exact hu5, em_grown HE3.out (hold p HPL.out.1) (hold gb HPL.out.2), only_grown (HO3.out.alloc _) hg5 fun r hr => (World.ownsRow.lt hra r hr).1⟩
      clear hu5 hg5 hra hlt hold HR3 HE3 HO3
      go_wp2_with fail
      go_roundw
      case rel => exact HN5.out
      case measure => have := HK1.out; simp [intOf]; omega
    · have ek : n = k := by omega
      subst ek
      have kN : ¬ (n : Int) < (n : Int) := by omega
      obtain ⟨cb, cc, zs, e9, hcb, hzs, hzv⟩ := own_open15 (xs := cvL F n) (by rw [cvL_len]; exact HRW.out) (by rw [cvL_len]; exact n1)
      rw [cvL_len] at e9
      injection e9 with e9 _ e8
      subst e9 e8
      have HZ := Lib.hid hzs
      have HCB : Hid (W0.heap.size ≤ cb) := Lib.hid hcb
      have HZV : Hid (∀ j, j < n → wr.cell? ⟨cb, j, none⟩ = some (.int .u64 (F j))) := Lib.hid fun j hj => (hzs.cell j).trans (hzv j _ (cvL_at (f := F) hj))
      have HLr := Lib.hid (HL5.out.em HE50.out HO.out (by decide) (by decide))
      have HBr := Lib.hid (Only.below HB5.out HO.out HB5.out.size HPG.out.1 HPG.out.2)
      have HSZ : Hid (W0.heap.size ≤ wr.heap.size) := Lib.hid HO.out.size
      clear hzs hzv hcb HRW HO HL5 HB5 HE50 hk hkn
      have l0 : wr.cell? ⟨lb, 0, none⟩ = some (.int .i64 V) := HLr.out.cell 0
      have l1 : wr.cell? ⟨lb, 1, none⟩ = some (.int .i64 S) := HLr.out.cell 1
      have l2 : wr.cell? ⟨lb, 2, none⟩ = some (.int .i64 T) := HLr.out.cell 2
      have llt := HLr.out.lt
      go_wp2_with fail
      refine (ref15 V S T _).mono ?_; rintro e w6 ⟨rfl, hb6⟩
      have HL6 := Lib.hid (HLr.out.below hb6 HLr.out.lt)
      have HB6 := Lib.hid (HBr.out.trans (hb6.mono HBr.out.size))
      have HE6 := Lib.hid (HE.out.below hb6)
      have HV6 : Hid (∀ j, j < n → w6.cell? ⟨cb, j, none⟩ = some (.int .u64 (F j))) := Lib.hid fun j hj => cell_later hb6 (HZV.out j hj)
      have HC6 : Hid (cb < w6.heap.size) := Lib.hid (Nat.lt_of_lt_of_le HZ.out.lt hb6.size)
      have HS6 : Hid (W0.heap.size ≤ w6.heap.size) := Lib.hid (Nat.le_trans HSZ.out hb6.size)
      clear HLr HBr HE HZV HZ HSZ hb6 l0 l1 l2 llt
      go_wp2_with fail
      refine (open_ref HR.out HCN.out.symm HV6.out HC6.out (fun k => by rw [← HF.out]; exact bcX_bd HR.out HDD.out k) (by omega)).mono ?_
      rintro e w7 ⟨b, rfl, hB, hV, hS, hT9, b7, hga, hcb7⟩
      have HL7 := Lib.hid ((HL6.out.below b7 HL6.out.lt).alloc (bB b))
      have HB7 := Lib.hid ((HB6.out.trans (b7.mono HB6.out.size)).alloc ((HB6.out.trans (b7.mono HB6.out.size)).size) (bB b))
      have HE7 := Lib.hid ((HE6.out.below b7).below ((Below.refl _ _).alloc (Nat.le_refl _) (bB b)))
      have HK7 := Lib.hid (hB.alloc (bB b))
      have HX7 := Lib.hid (BB.new w7 b)
      have HFAR : Hid ((b.cb ≠ p ∧ b.cb ≠ gb) ∧ b.ga ≠ p ∧ b.ga ≠ gb) := Lib.hid (by
        have h1 := HPL.out
        have h2 := HCB.out
        have h3 := HS6.out
        rw [hcb7]
        exact ⟨⟨by omega, by omega⟩, by omega, by omega⟩)
      have HBV : Hid (b.V = V ∧ b.S = S ∧ b.T = T) := Lib.hid ⟨hV, hS, hT9⟩
      obtain ⟨g9, mk9, ts9, qq9, hsd⟩ := birth_sd (dl := dl) (d := d) HR.out HDD.out (by rw [HF.out]; exact hB) hV hS hT9
      rw [HF.out] at hsd
      have HSD := Lib.hid hsd
      clear HL6 HB6 HE6 HV6 HC6 HS6 hB hV hS hT9 b7 hga hcb7 hsd
      obtain ⟨x0, x1, x2, x3, x4, x5, x6⟩ := HX7.out.cells
      have xlt := HX7.out.lt
      go_wp2_with fail
      generalize hW8 : w7.alloc (bB b) = w8 at HL7 HB7 HE7 HK7 HX7 ⊢
      generalize hxb : w7.heap.size = xb at HX7 ⊢
      clear hW8 hxb x0 x1 x2 x3 x4 x5 x6 xlt
      refine (edges_any HK7.out HSD.out.er).mono ?_; rintro e w9 ⟨v9, rfl, hE9, b9⟩
      rw [HSD.out.er.all_perm.eq_nil] at hE9
      obtain ⟨ea, ec, e9⟩ := hE9.slice
      have e9b : v9 = .slice ea 0 ec := e9
      subst e9b
      have HL9 := Lib.hid (HL7.out.below b9 HL7.out.lt)
      have HB9 := Lib.hid (HB7.out.trans (b9.mono HB7.out.size))
      have HE9 := Lib.hid (HE7.out.below b9)
      have HK9 := Lib.hid (HK7.out.below b9)
      have HX9 := Lib.hid (HX7.out.below b9)
      clear HL7 HB7 HE7 HK7 HX7 hE9 e9 b9
      go_wp2_with fail
      have HLd : Hid (Blk w9.drew lb 23 #[.int .i64 V, .int .i64 S, .int .i64 T]) := Lib.hid HL9.out
      have HBd : Hid (Below w.heap.size w w9.drew) := Lib.hid (HB9.out.trans ((Below.refl _ _).drew.mono HB9.out.size))
      have HEd : Hid (EM w9.drew V S T p gb cap (12000 + n) (bcX V S T dl d (nN V S + 1))) := Lib.hid (by rw [HF.out]; exact HE9.out.drew)
      have HKd : Hid (Bk w9.drew b F) := Lib.hid (HK9.out.below (Below.refl _ _).drew)
      have HXd : Hid (BB w9.drew xb b) := Lib.hid (HX9.out.below (Below.refl _ _).drew)
      clear HL9 HB9 HE9 HK9 HX9
      have hrule : ∀ W : World, Blk W lb 23 #[.int .i64 V, .int .i64 S, .int .i64 T] → W.cell? ⟨lb, 0, none⟩ = some (.int .i64 V) ∧ W.cell? ⟨lb, 1, none⟩ = some (.int .i64 S) ∧ W.cell? ⟨lb, 2, none⟩ = some (.int .i64 T) := fun _ h => ⟨h.cell 0, h.cell 1, h.cell 2⟩
      obtain ⟨l0, l1, l2⟩ := hrule _ HLd.out
      have llt := HLd.out.lt
      obtain ⟨Sn, hSn⟩ : ∃ k, S.toNat = k := ⟨_, rfl⟩
      have HSN : Hid ((Sn : Int) = S) := Lib.hid (by omega)
      go_region_held3 (fun W => Blk W lb 23 #[.int .i64 V, .int .i64 S, .int .i64 T]) (first | (with_reducible assumption) | (with_reducible exact HLd.out) | (with_reducible exact HL10.out) | (with_reducible exact HL11.out))
        (first
          | (go_at_call 32; ((with_reducible refine (pm_of p _).mono ?_); rintro e w10 ⟨rfl, hb10⟩; have HL10 := Lib.hid (HLd.out.below hb10 HLd.out.lt); have HB10 := Lib.hid (HBd.out.trans (hb10.mono HBd.out.size)); have HE10 := Lib.hid (HEd.out.below hb10); have HK10 := Lib.hid (HKd.out.below hb10); have HX10 := Lib.hid (HXd.out.below hb10)))
          | (go_at_call 31; ((with_reducible refine (free15 HE10.out (by omega)).mono ?_); rintro e w11 ⟨v, rfl, hl, _, _, hO11⟩; rw [hSn] at hl; have HL11 := Lib.hid (HL10.out.em HE10.out hO11 (by decide) (by decide)); have HX11 := Lib.hid (Blk.em HX10.out HE10.out hO11 (by decide) (by decide)); have HK11 := Lib.hid (bk_only HK10.out HE10.out HFAR.out hO11); have HB11 := Lib.hid (Only.below HB10.out hO11 HB10.out.size HPG.out.1 HPG.out.2); obtain ⟨va, vc, ev, _, _⟩ := hl.shape; rw [List.length_range] at ev; subst ev; have HLI := Lib.hid hl; clear hl hO11)))
      have hsN := hSn
      clear hSn HLd HBd HEd HKd HXd HL10 HB10 HE10 HK10 HX10 l0 l1 l2 llt hrule
      have SnI : (Sn : Int) ≤ 48 := by have := HSN.out; have := HV8.out; omega
      have HREL2 : Hid (∃ j : Nat, j ≤ Sn ∧ (Value.int .i64 0) = .int .i64 (j : Int) ∧ Below w11.heap.size w11 w11) := Lib.hid ⟨0, Nat.zero_le _, rfl, Below.refl _ _⟩
      go_wp2_with fail
      go_loopw [81] (fun i wr => ∃ j : Nat, j ≤ Sn ∧ i = .int .i64 (j : Int) ∧ Below w11.heap.size w11 wr) (fun i _ => Sn - (intOf i).toNat)
      case atStart => exact HREL2.out
      case round =>
        clear HREL2
        obtain ⟨j, hj, rfl, hbq⟩ := hrel
        have HBQ := Lib.hid hbq
        by_cases hjn : j < Sn
        · have jI : (j : Int) < (Sn : Int) := by omega
          have j0 : (0 : Int) ≤ (j : Int) := by omega
          have hjj : ((j : Int) != (j : Int)) = false := by simp
          obtain ⟨fb, off, rfl, hc⟩ := (HLI.out.below hbq).at (k := j) (x := j) (by rw [List.getElem?_range hjn])
          have hlt := block_lt hc
          clear hbq
          go_wp2_with fail
          go_round
          case rel => exact ⟨j + 1, hjn, by go_num, HBQ.out⟩
          case measure => simp [intOf]; omega
        · have ej : j = Sn := by omega
          subst ej
          have jN : ¬ (j : Int) < (j : Int) := by omega
          have HLq := Lib.hid (HL11.out.below hbq HL11.out.lt)
          have HKq := Lib.hid (HK11.out.below hbq)
          have HXq : Hid (BB wr xb b) := Lib.hid (BB.below HX11.out hbq)
          have HBq := Lib.hid (HB11.out.trans (hbq.mono HB11.out.size))
          have hSj : ((j : Int) == S) = true := by rw [HSN.out]; exact beq_self_eq_true _
          obtain ⟨x0, x1, x2, x3, x4, x5, x6⟩ := HXq.out.cells
          have xlt := HXq.out.lt
          clear hbq HL11 HK11 HX11 HB11 HLI
          go_wp2_with fail
          refine (sound14 HKq.out HSD.out (by rw [HBV.out.1]; exact Hs.nil)).mono ?_; rintro e w12 ⟨rfl, hb12⟩
          have HL12 := Lib.hid (HLq.out.below hb12 HLq.out.lt)
          have HB12 := Lib.hid (HBq.out.trans (hb12.mono HBq.out.size))
          clear HLq HKq HXq HBq hb12 x0 x1 x2 x3 x4 x5 x6 xlt
          have l1 : w12.cell? ⟨lb, 1, none⟩ = some (.int .i64 S) := HL12.out.cell 1
          have llt := HL12.out.lt
          go_wp2_with fail
          refine (awake15 _).mono ?_; rintro e w13 ⟨rfl, hb13⟩
          have HB13 := Lib.hid (HB12.out.trans (hb13.mono HB12.out.size))
          go_wp2_with fail
          go_ret
          exact ⟨rfl, HB13.out⟩
theorem lsound (V S T : Int) (da : Option Addr) (dl dc : Nat) (d : Nat → Nat) (w : World) (hD : IsNum w da dl d) :
    Calls Try.prog 8 #[vL V S T, .slice da dl dc] w fun e w' => e = .returned (.bool true) ∧ Below w.heap.size w w' := by
  by_cases h : rtB V S T = true ∧ V ≤ 8 ∧ S ≤ 8 ∧ dl ≤ 256
  · exact lsound_in V S T da dl dc d (rtB_yes h.1) h.2.1 h.2.2.1 h.2.2.2 w hD
  · exact lsound_out V S T da dl dc h w
end

end Go.Proofs.Ytaooglagddphnaa

namespace Go.Proofs.Ytaooglagddphnaa
open Go.RowKit Go.ChangeShapes Go.WideShapes Go.Deep

theorem open_num15 {H : Type} {enc : TypeId × Value → H} {w : World} {base fuel : Nat} {held : Bool} {v : Value} {x : DataW H × List MemPlace}
    (h : DataW.trod enc Try.prog w base (fun _ => true) held fuel 62 [v] = some x) : ∃ a len cap f, v = .slice a len cap ∧ IsNum w a len f := by
  rcases open_ints Try.underlying62 Try.underlying51 (by kernel_rfl) h with ⟨hcs, _⟩ | ⟨y, l, c, zs, hcs, _, hl, hm, hz, _, hcell, hwz⟩
  · simp at hcs
    exact ⟨none, 0, 0, fun _ => 0, hcs, fun h => absurd h (Nat.lt_irrefl _)⟩
  · simp at hcs
    subst hcs
    refine ⟨some y, l, c, fun k => (zs.getD k 0).toNat, rfl, fun h0 => ?_⟩
    obtain ⟨b, off, spot⟩ := y
    simp at hz
    have hc0 := hcell 0 (by omega)
    have hspot : spot = none := by simpa [Addr.add] using World.cell?_spot hc0
    subst hspot
    refine ⟨b, off, rfl, fun k hk => ?_⟩
    have hc := hcell k (by omega)
    have r := range_u64 hwz k
    rw [Addr.add_lit] at hc
    have r1 : 0 ≤ zs.getD k 0 := by simpa using r.1
    have r2 : zs.getD k 0 ≤ 18446744073709551615 := by simpa using r.2
    refine ⟨?_, (by show (zs.getD k 0).toNat ≤ _; omega)⟩
    rw [hc]
    show _ = some (Value.int .u64 ((zs.getD k 0).toNat : Int))
    rw [Int.toNat_of_nonneg r1]
end Go.Proofs.Ytaooglagddphnaa
