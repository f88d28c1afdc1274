/- The law's small calls: same, out; a number ahead of a list, in a region that draws its order; lists in a map. -/
import Derived.Test.YtaooglagddphnaaAdM
import Derived.Laws.AppendOwnNone
import Derived.Maps.AppendAt
namespace Go.Proofs.Ytaooglagddphnaa
open Go.RowKit

set_option maxRecDepth 100000

theorem same_yes12 {w : World} {v1 v2 : Value} {l : List Nat} (h1 : LI w v1 l) (h2 : LI w v2 l) (hl : l.length ≤ 100000) :
    Calls Try.prog 50 #[v1, v2] w fun e w' => e = .returned (.bool true) ∧ Below w.heap.size w w' := by
  obtain ⟨a1, c1, rfl, g1, m1⟩ := h1.shape
  obtain ⟨a2, c2, rfl, g2, m2⟩ := h2.shape
  have H1 := Lib.hid h1
  have H2 := Lib.hid h2
  clear h1 h2 m1 m2
  go_enter Try.func50, Try.ntmps50
  go_wp2_with fail
  go_loopw [13] (fun i wr => ∃ k : Nat, k ≤ l.length ∧ i = .int .i64 (k : Int) ∧ Below w.heap.size w wr) (fun i _ => l.length - (intOf i).toNat)
  case atStart => exact ⟨0, Nat.zero_le _, rfl, Below.refl _ _⟩
  case round =>
    obtain ⟨k, hk, rfl, B⟩ := hrel
    by_cases hlt : k < l.length
    · obtain ⟨x, hx⟩ : ∃ x, l[k]? = some x := ⟨_, List.getElem?_eq_getElem hlt⟩
      have hne : l ≠ [] := by rintro rfl; simp at hlt
      obtain ⟨b1, o1, d1, e1, _, _, _, q1⟩ := (H1.out.below B).open_ hne
      obtain ⟨b2, o2, d2, e2, _, _, _, q2⟩ := (H2.out.below B).open_ hne
      injection e1 with e1 _ ec1
      injection e2 with e2 _ ec2
      subst e1 e2 ec1 ec2
      have z1 := q1 k x hx
      have z2 := q2 k x hx
      have HB := Lib.hid B
      clear q1 q2 hx hne B
      go_wp2_with fail
      go_region
      all_goals
        have HB2 := Lib.hid (show Below w.heap.size w wr.drew from HB.out.drew)
        go_wp2_with fail
        go_round
        case rel => exact ⟨k + 1, by omega, by go_num, HB2.out⟩
        case measure => simp [intOf]; omega
    · have hk' : k = l.length := by omega
      subst hk'
      have HB := Lib.hid B
      clear B
      go_wp2_with fail
      go_ret
      exact ⟨rfl, HB.out⟩

/-- A list without a number. -/
def wo12 (l : List Nat) (x : Nat) : List Nat := l.filter fun y => y != x

set_option maxHeartbeats 1000000 in
theorem out_any12 {w : World} {v : Value} {l : List Nat} {x : Nat} (h : LI w v l) (hl : l.length ≤ 100000) (hx : x ≤ 100000) (hs : ∀ y ∈ l, y ≤ 100000) :
    Calls Try.prog 100 #[v, .int .i64 (x : Int)] w fun e w' => ∃ v', e = .returned v' ∧ LI w' v' (wo12 l x) ∧ (∀ i, bk v' = some i → w.heap.size ≤ i) ∧ Below w.heap.size w w' := by
  obtain ⟨a1, c1, rfl, g1, m1⟩ := h.shape
  have H1 := Lib.hid h
  have HS := Lib.hid hs
  clear h m1 hs
  go_enter Try.func100, Try.ntmps100
  go_wp2_with fail
  go_loopw [5, 10] (fun v' i wr => ∃ k : Nat, k ≤ l.length ∧ i = .int .i64 (k : Int) ∧ LI wr v' (wo12 (l.take k) x) ∧ (∀ i, bk v' = some i → w.heap.size ≤ i) ∧ Below w.heap.size w wr) (fun _ i _ => l.length - (intOf i).toNat)
  case atStart => exact ⟨0, Nat.zero_le _, rfl, LI.nil _, fun i hi => by simp [bk] at hi, Below.refl _ _⟩
  case round =>
    obtain ⟨k, hk, rfl, L, BK, B⟩ := hrel
    by_cases hlt : k < l.length
    · obtain ⟨y, hy⟩ : ∃ y, l[k]? = some y := ⟨_, List.getElem?_eq_getElem hlt⟩
      have hne : l ≠ [] := by rintro rfl; simp at hlt
      obtain ⟨b1, o1, d1, e1, _, _, _, q1⟩ := (H1.out.below B).open_ hne
      injection e1 with e1 _ ec1
      subst e1 ec1
      have z1 := q1 k y hy
      have hy5 : y ≤ 100000 := HS.out y (List.mem_of_getElem? hy)
      have htk : l.take (k + 1) = l.take k ++ [y] := by rw [List.take_add_one, hy]; rfl
      have hlen : (wo12 (l.take k) x).length ≤ 100000 := Nat.le_trans (List.length_filter_le _ _) (by simp; omega)
      have HB := Lib.hid B
      have HL := Lib.hid L
      have HBK := Lib.hid BK
      have HT := Lib.hid htk
      clear q1 hy hne B L BK htk
      by_cases hxy : y = x
      · have hR : Hid (LI wr u5 (wo12 (l.take (k + 1)) x)) := by
          rw [HT.out]
          unfold wo12
          rw [List.filter_append]
          simp only [hxy, bne_self_eq_false, List.filter_cons, List.filter_nil, Bool.false_eq_true, if_false, List.append_nil]
          exact HL
        subst hxy
        clear HL HT
        go_wp2_with fail
        go_round
        case rel => exact ⟨k + 1, by omega, by go_num, hR.out, HBK.out, HB.out⟩
        case measure => simp [intOf]; omega
      · have hne2 : ((y : Int) == (x : Int)) = false := beq_eq_false_iff_ne.2 (by omega)
        have hne3 : ¬ (y : Int) = (x : Int) := by omega
        go_wp2_with (at_builtin; refine wpList_append_li _ rfl _ _ rfl rfl (HL.out.alloc _) ⟨wr.heap.size, 0, none⟩ 1 y rfl (cell_new1 _ _ _) hlen ?_)
        intro v' w2 hli2 hg2 hbk2
        have hR : Hid (LI w2 v' (wo12 (l.take (k + 1)) x)) := by
          rw [HT.out]
          have : wo12 (l.take k ++ [y]) x = wo12 (l.take k) x ++ [y] := by
            unfold wo12
            rw [List.filter_append]
            have : (y != x) = true := by simp [hxy]
            simp [this]
          rw [this]
          exact Lib.hid hli2
        have HB2 : Hid (Below w.heap.size w w2) := Lib.hid ((HB.out.alloc HB.out.size _).grown hg2 (by have := HB.out.size; simp; omega) HBK.out)
        have HBK2 : Hid (∀ i, bk v' = some i → w.heap.size ≤ i) := by
          refine Lib.hid fun i hi => ?_
          rcases hbk2 with e | ⟨k, e, hk⟩
          · exact HBK.out i (e ▸ hi)
          · rw [hi] at e; cases e
            have := HB.out.size
            omega
        clear hli2 hg2 hbk2 HL HB HBK HT
        go_wp2_with fail
        go_round
        case rel => exact ⟨k + 1, by omega, by go_num, hR.out, HBK2.out, HB2.out⟩
        case measure => simp [intOf]; omega
    · have hk' : k = l.length := by omega
      subst hk'
      rw [List.take_length] at L
      have HB := Lib.hid B
      have HL := Lib.hid L
      have HBK := Lib.hid BK
      clear B L BK
      go_wp2_with fail
      go_ret
      exact ⟨_, rfl, HL.out, HBK.out, HB.out⟩

theorem run_cons_li {w : World} {z b : Nat} (hb : Blk w b 3 #[.int .i64 (z : Int)]) {v : Value} {l : List Nat} (h : LI w v l) (hl : l.length ≤ 100000) (ty : TypeId) :
    ∃ v' w', (Builtin.append_ #[60, 60] ty #[.slice (some ⟨b, 0, none⟩) 1 1, v]).run Try.prog w = .ok v' w' ∧ LI w' v' (z :: l) ∧ w.grownBy w' (some b) ∧ ∀ i, bk v' = some i → b ≤ i := by
  obtain ⟨i0, hi0, hz0, hz1, hz2⟩ := info_parts info_i
  obtain ⟨ao, cap, rfl, h1, h2, h3, h4⟩ := h
  have hblt := hb.lt
  have hown : w.ownsRow b 3 1 (.slice (some ⟨b, 0, none⟩) 1 1) 1 [.int .i64 (z : Int)] :=
    ⟨rfl, .inr ⟨b, 1, #[.int .i64 (z : Int)], rfl, Nat.le_refl _, hb, Nat.le_refl _, by simp [maxLen], rfl, rfl⟩⟩
  have hone : ∀ u ∈ (l.map fun s : Nat => Value.int .i64 (s : Int)), u.oneCell' = true := by
    intro u hu
    obtain ⟨y, _, rfl⟩ := List.mem_map.1 hu
    rfl
  have fin : ∀ v' w', w'.ownsRow b 3 1 v' (1 + l.length) ([.int .i64 (z : Int)] ++ l.map fun s : Nat => Value.int .i64 (s : Int)) → LI w' v' (z :: l) ∧ ∀ i, bk v' = some i → b ≤ i := by
    intro v' w' hown'
    have hown2 : w'.ownsRow b 3 1 v' (z :: l).length ((z :: l).map fun s : Nat => Value.int .i64 (s : Int)) := by simpa [Nat.add_comm] using hown'
    exact LI.of_owns hown2
  cases ao with
  | none =>
    have hc := h3 rfl
    subst hc
    have hl0 : l = [] := List.eq_nil_of_length_eq_zero (by omega)
    subst hl0
    have hrun := run_append_owned_none (P := Try.prog) (w := w) b 60 ty 3 i0 1 Try.underlying60 hi0 _ 1 [.int .i64 (z : Int)] hown
    obtain ⟨f1, f2⟩ := fin _ w (by simpa using hown)
    exact ⟨_, w, hrun, f1, ⟨rfl, rfl, rfl, Nat.le_refl _, fun _ _ _ => rfl⟩, f2⟩
  | some ad =>
    obtain ⟨v', w', hrun, a1, a2, _, _⟩ := run_append_own_at (P := Try.prog) w b 60 ty 3 i0 _ 1 8 Try.underlying60 hi0 hz0 hz1 hz2 rfl (by omega) _ 1 [.int .i64 (z : Int)] hown ad l.length cap (l.map fun s : Nat => Value.int .i64 (s : Int)) (by simp) (fun j u hj => by
      obtain ⟨y, hy, rfl⟩ : ∃ y, l[j]? = some y ∧ u = .int .i64 (y : Int) := by
        simp only [List.getElem?_map, Option.map_eq_some_iff] at hj
        obtain ⟨y, hy, e⟩ := hj
        exact ⟨y, hy, e.symm⟩
      have hlj := (List.getElem?_eq_some_iff.1 hy).1
      obtain ⟨b', off, zs, e, hz, hsz, hel⟩ := h4 (by omega)
      cases e
      rw [Addr.add_lit]
      exact (hz.cell _).trans (hel j y hy)) hone (by simp only [maxLen]; omega) (by omega) (by omega)
    obtain ⟨f1, f2⟩ := fin v' w' a1
    exact ⟨v', w', hrun, f1, by simpa [Value.ownBlock] using a2, f2⟩
theorem step_cons_li {w : World} {ops : Array Oper} {o : Oper} {a : Act} {K : Act → World → Prop} {Q : Exit → Act → World → Prop} {E : Prop} (hgd : o.guard = none) (s x : Operand)
    (ho : o.op = .call { callee := .builtin .append, args := #[s, x], argTypes := #[60, 60] }) {z b : Nat} (hs : a.eval s = .slice (some ⟨b, 0, none⟩) 1 1) (hb : Blk w b 3 #[.int .i64 (z : Int)]) {v : Value} {l : List Nat} (hx : a.eval x = v) (h : LI w v l) (hl : l.length ≤ 100000)
    (hK : ∀ v' w', LI w' v' (z :: l) → w.grownBy w' (some b) → (∀ i, bk v' = some i → b ≤ i) → K (a.put o.dst v') w') :
    if Region.wanted o (yielded ops a.tmps) = true then Oper.wp Try.prog o a w K Q else E := by
  have hw : Region.wanted o (yielded ops a.tmps) = true := by simp [Region.wanted, hgd]
  rw [if_pos hw]
  obtain ⟨v', w', hr, h2, h3, h4⟩ := run_cons_li hb h hl o.type
  unfold Oper.wp execOp
  simp only [ho, resolve, invoke, builtin, Sem.run_bind, Sem.run_pure, Result.andThen_ok, List.map_toArray, List.map_cons, List.map_nil, hs, hx, hr]
  exact hK v' w' h2 h3 h4

/-- The document's lists in a map. -/
abbrev kV (v l : Nat) : Value := .agg #[.int .i64 (v : Int), .int .i64 (l : Int)]
theorem kV_inj {v l v2 l2 : Nat} (e : kV v l = kV v2 l2) : v = v2 ∧ l = l2 := by
  injection e with e
  have e2 := congrArg Array.toList e
  simp at e2
  omega
def LM (w : World) (b n : Nat) (D : Nat → Nat → List Nat) (base : Nat) : Prop :=
  ∃ G, FM 97 w b n G ∧ (∀ key val, G key val → ∃ v l : Nat, key = kV v l ∧ LI w val (D v l) ∧ ∀ k, bk val = some k → base ≤ k) ∧ ∀ v l, (∀ val, ¬ G (kV v l) val) → D v l = []
/-- The map's edges. -/
def Ge (bs : List E1) : Value → Value → Prop := fun x v => ∃ e ∈ bs, x = .int .i64 (e.s : Int) ∧ v = vEd e.u e.v e.l e.t
section
variable {w w' w0 : World} {b n base v l v2 l2 : Nat} {D : Nat → Nat → List Nat} {val : Value}
theorem LM.lt (h : LM w b n D base) : b < w.heap.size := by obtain ⟨_, h, _⟩ := h; exact h.lt
theorem LM.keep (h : LM w b n D base) (hb : w'.heap[b]? = w.heap[b]?) (hr : ∀ i zs, Blk w i 3 zs → w'.heap[i]? = w.heap[i]?) : LM w' b n D base := by
  obtain ⟨G, h1, h2, h3⟩ := h
  refine ⟨G, h1.keep hb, fun key val hG => ?_, h3⟩
  obtain ⟨v, l, e, hl, hk⟩ := h2 key val hG
  refine ⟨v, l, e, hl.keep fun i hi => ?_, hk⟩
  obtain ⟨a, cap, rfl, g1, g2, g3, g4⟩ := hl
  rcases Nat.eq_zero_or_pos cap with rfl | hc
  · rw [bk_zero] at hi; cases hi
  · obtain ⟨b', off, zs, rfl, hz, _⟩ := g4 hc
    rw [bk_some hc] at hi
    cases hi
    exact hr i zs hz
theorem LM.below (h : LM w b n D base) (hb : Below w.heap.size w w') : LM w' b n D base := h.keep (hb.block b h.lt) fun i _ hz => hb.block i hz.lt
theorem LM.drew (h : LM w b n D base) : LM w.drew b n D base := h.below (Below.refl _ _).drew
theorem LM.ne_blk (h : LM w b n D base) {i : Nat} {ty : TypeId} {cs : Array Value} (hi : Blk w i ty cs) : b ≠ i := by obtain ⟨_, h, _⟩ := h; exact h.ne_blk hi
theorem LM.ta {V S T : Int} {p gb cap m : Nat} {f : Nat → Int} {mk : Nat → Nat} {ts : List Tp} (h : LM w b n D base) (A : TA w V S T p gb cap m f mk ts) (ho : Only p gb w w') : LM w' b n D base := by
  obtain ⟨_, _, _, B, _⟩ := A.em
  obtain ⟨zs, hz, _⟩ := B.cells
  exact h.keep (ho.block b h.lt (h.ne_blk B.own) (h.ne_blk hz)) fun i _ hi => ho.block i hi.lt (hi.ne_ B.own (by decide)) (hi.ne_ hz (by decide))
theorem LM.grown (h : LM w b n D base) {r : Option Nat} (hg : w.grownBy w' r) (hb : r ≠ some b) (hr : ∀ i zs, Blk w i 3 zs → r ≠ some i) : LM w' b n D base := h.keep (hg.block b h.lt fun e => hb e.symm) fun i zs hz => hg.block i hz.lt fun e => hr i zs hz e.symm
theorem LM.more {n' : Nat} (h : LM w b n D base) (hn : n ≤ n') : LM w b n' D base := by
  obtain ⟨G, h1, r⟩ := h
  exact ⟨G, h1.more hn, r⟩
theorem LM.made (w : World) (base : Nat) : LM (w.alloc (.map #[] 0)) w.heap.size 0 (fun _ _ => []) base := ⟨_, FM.made _ w, fun _ _ h => h.elim, fun _ _ _ => rfl⟩
theorem LM.cong {D' : Nat → Nat → List Nat} (h : LM w b n D base) (e : ∀ v l, D' v l = D v l) : LM w b n D' base := by
  have : D' = D := funext fun v => funext fun l => e v l
  rw [this]; exact h
/-- A look at one list: in every world that has the same map. -/
theorem LM.look (h : LM w b n D base) (hv : v ≤ 1000) (hl : l ≤ 1000) : ∃ val, LI w val (D v l) ∧ (∀ k, bk val = some k → base ≤ k) ∧ ∀ W : World, W.heap[b]? = w.heap[b]? → (Instr.lookup 43 (.map (some b)) (kV v l) false).run Try.prog W = .ok val W := by
  obtain ⟨G, h1, h2, h3⟩ := h
  obtain ⟨kl, hkey⟩ := keyP (v : Int) (l : Int) (by omega) (by omega)
  by_cases c : ∃ val, G (kV v l) val
  · obtain ⟨val, hG⟩ := c
    obtain ⟨v2, l2, e, hli, hk⟩ := h2 _ _ hG
    obtain ⟨rfl, rfl⟩ := kV_inj e
    exact ⟨val, hli, hk, fun W hW => (h1.keep hW).look_some false keyedP Try.underlying43 hkey hG⟩
  · have hn : ∀ val, ¬ G (kV v l) val := fun val hG => c ⟨val, hG⟩
    refine ⟨.slice none 0 0, by rw [h3 v l hn]; exact LI.nil _, fun k hk => by simp [bk] at hk, fun W hW => (h1.keep hW).look_none false keyedP Try.underlying43 (zeroIs W) hkey hn⟩
/-- A list is stored. -/
theorem LM.store (h : LM w b n D base) (hv : v ≤ 1000) (hl : l ≤ 1000) {L : List Nat} (hL : LI w val L) (hk : ∀ k, bk val = some k → base ≤ k) :
    ∃ w', (Instr.mapUpdate 43 (.map (some b)) (kV v l) val).run Try.prog w = .ok () w' ∧ LM w' b (n + 1) (qset D v l L) base ∧ w.grownBy w' (some b) := by
  have hne : ∀ i zs, Blk w i 3 zs → some b ≠ some i := fun i zs hz e => h.ne_blk hz (by injection e)
  obtain ⟨G, h1, h2, h3⟩ := h
  obtain ⟨kl, hkey⟩ := keyP (v : Int) (l : Int) (by omega) (by omega)
  obtain ⟨w', hrun, hF, hg⟩ := h1.store (v := val) (G' := fun x u => (x = kV v l ∧ u = val) ∨ (x ≠ kV v l ∧ G x u)) keyedP Try.underlying43 hkey fun _ _ => Iff.rfl
  have kp : ∀ {vs : Value} {L : List Nat}, LI w vs L → LI w' vs L := fun {vs L} hli => by
    refine hli.keep fun i hi => ?_
    obtain ⟨a, cap, rfl, g1, g2, g3, g4⟩ := hli
    rcases Nat.eq_zero_or_pos cap with rfl | hc
    · rw [bk_zero] at hi; cases hi
    · obtain ⟨b', off, zs, rfl, hz, _⟩ := g4 hc
      rw [bk_some hc] at hi
      cases hi
      exact hg.block i hz.lt fun e => hne i zs hz e.symm
  refine ⟨w', hrun, ⟨_, hF, fun key u hG => ?_, fun v2 l2 hn => ?_⟩, hg⟩
  · rcases hG with ⟨e1, e2⟩ | ⟨e1, hG⟩
    · exact ⟨v, l, e1, by rw [qset_at, e2]; exact kp hL, by rw [e2]; exact hk⟩
    · obtain ⟨v2, l2, e, hli, hk2⟩ := h2 key u hG
      exact ⟨v2, l2, e, by rw [qset_ne (by rintro ⟨rfl, rfl⟩; exact e1 e)]; exact kp hli, hk2⟩
  · have hne2 : ¬ (v2 = v ∧ l2 = l) := by rintro ⟨rfl, rfl⟩; exact hn val (.inl ⟨rfl, rfl⟩)
    rw [qset_ne hne2]
    exact h3 v2 l2 fun u hG => hn u (.inr ⟨fun e => hne2 (kV_inj e), hG⟩)
end
end Go.Proofs.Ytaooglagddphnaa
