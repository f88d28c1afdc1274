/- TourRows, plainly: what stands between both arcs of an edge is what is joined with one of its ends without it; nodes told; a graph copied. -/
import Derived.Test.YtijpflnbjcoidaaZTovB
namespace Go.Proofs.Ytijpflnbjcoidaa
open Go.RowKit

set_option maxRecDepth 100000

/-- A tree with any row. -/
def anyT : List Nat → Tp
  | [] => .nil
  | x :: l => .node .nil x (anyT l)
theorem anyT_row : ∀ l : List Nat, (anyT l).row = l
  | [] => rfl
  | x :: l => by show Tp.row (.node .nil x (anyT l)) = _; rw [Tp.row_node, anyT_row l]; rfl
section
variable {V S T : Int} {L s u v x : Nat} {ts : List Tp} {rows : List (List Nat)} {gr : List (Option (Nat × Nat))} {g : Mg9} {mk : Nat → Nat} {r : List Nat}
/-- What stands between both arcs of an edge. -/
theorem Lv.between (h : Lv V S L ts rows gr) (hR : Rt V S T) (hL : (L : Int) < lv V) (hF : FI V S g mk ts) (hg : gr[s]? = some (some (u, v))) : ∃ r ∈ rows, ∃ c d pp qq rr, Arcs (An V S L) s c d ∧ r = pp ++ c :: (qq ++ d :: rr) ∧ r.Nodup ∧ (∃ w : Nat, (w : Int) < V ∧ Xn V L w ∈ qq) ∧ (∀ y ∈ qq, y ∈ r) ∧
    ((Xn V L u ∈ qq ∧ Xn V L v ∉ qq) ∨ (Xn V L v ∈ qq ∧ Xn V L u ∉ qq)) ∧ ∃ E, Lnk (gr.set s none) E ∧ (∀ s a b, (s, a, b) ∈ E → a < V.toNat ∧ b < V.toNat) ∧ ∀ w y, Xn V L w ∈ qq → (Way E w y ↔ Xn V L y ∈ qq) := by
  obtain ⟨r, hr, c, d, pp, qq, rr, ha, er, hnd, hq0, ho0⟩ := h.parts hR hL hF hg
  obtain ⟨i, hi⟩ := List.mem_iff_getElem?.1 hr
  have hp : rows.Perm (r :: wo i i 0 rows) := wo_perm1 (Nat.zero_le _) hi
  obtain ⟨t, ht, et⟩ := h.has r hr
  have hc := h.cut (ts' := anyT qq :: anyT (pp ++ rr) :: anyT [c] :: anyT [d] :: ts) hR hL hF hg ha (er ▸ hp) (et.trans er) (ti := anyT qq) (tu := anyT (pp ++ rr)) (ct := anyT [c]) (dt := anyT [d]) (by simp) (by simp) (anyT_row _) (anyT_row _) (by simp) (anyT_row _) (by simp) (anyT_row _) (fun z hz _ => by simp [hz])
  obtain ⟨hc, hends⟩ := hc
  obtain ⟨P, p1, p2, p3⟩ := hc.tour
  have hnq := hc.nd
  rw [List.flatten_cons, List.flatten_cons, List.nodup_append] at hnq
  have apart : ∀ {y : Nat}, y ∈ qq → y ∉ pp ++ rr := fun h1 h2 => hnq.2.2 _ h1 _ (List.mem_append_left _ h2) rfl
  have hsub : ∀ y ∈ qq, y ∈ r := fun y hy => by rw [er]; simp [hy]
  have hq : qq ∈ qq :: (pp ++ rr) :: wo i i 0 rows := List.mem_cons_self ..
  have bound : ∀ s' a b, (s', a, b) ∈ P.flatMap Prod.snd → a < V.toNat ∧ b < V.toNat := fun s' a b hm => by
    have h1 := (p3 s' a b).1 hm
    by_cases e : s' = s
    · subst e
      rw [List.getElem?_set] at h1
      split at h1
      · split at h1 <;> cases h1
      · rename_i hne; exact absurd rfl hne
    · rw [List.getElem?_set_ne (Ne.symm e)] at h1
      have := h.ends hR hF h1
      omega
  refine ⟨r, hr, c, d, pp, qq, rr, ha, er, hnd, ?_, hsub, ?_, P.flatMap Prod.snd, p3, bound, fun w y hw => ⟨fun hway => ?_, fun hy => ?_⟩⟩
  · obtain ⟨p, hp1, e⟩ := List.mem_map.1 (p1.mem_iff.2 hq)
    obtain ⟨w, hw⟩ := (p2 p hp1).has
    rw [e] at hw
    exact ⟨w, Xn_node hR (h.node_le hF hr (hsub _ hw)).2, hw⟩
  · rcases hends with ⟨h1, h2⟩ | ⟨h1, h2⟩
    · exact .inl ⟨h1, fun h3 => apart h3 h2⟩
    · exact .inr ⟨h1, fun h3 => apart h3 h2⟩
  · have one : ∀ {s a b w : Nat}, (s, a, b) ∈ P.flatMap Prod.snd → (w = a ∨ w = b) → Xn V L w ∈ qq → Xn V L a ∈ qq ∧ Xn V L b ∈ qq := by
      intro s a b w hm hw hx
      obtain ⟨p, hp, hm⟩ := List.mem_flatMap.1 hm
      obtain ⟨_, _, ma, mb⟩ := (p2 p hp).mem hm
      have hr2 := p1.mem_iff.1 (List.mem_map_of_mem hp)
      obtain ⟨i2, hi2⟩ := List.mem_iff_getElem?.1 hq
      obtain ⟨j2, hj2⟩ := List.mem_iff_getElem?.1 hr2
      have hwp : Xn V L w ∈ p.1 := by rcases hw with rfl | rfl; exact ma; exact mb
      have := idx_uniq hc.nd hi2 hj2 hx hwp
      subst this
      rw [hi2] at hj2
      injection hj2 with hj2
      rw [hj2]; exact ⟨ma, mb⟩
    clear hR hF p1 p2 p3 bound hends
    induction hway with
    | refl => exact hw
    | fore _ he ih => exact (one he (.inl rfl) (ih hw)).2
    | back _ he ih => exact (one he (.inr rfl) (ih hw)).1
  · obtain ⟨p, hp1, e⟩ := List.mem_map.1 (p1.mem_iff.2 hq)
    exact ((p2 p hp1).joined (Xn_inj hR hL) (An_Xn hR hL) (by rw [e]; exact hw) (by rw [e]; exact hy)).mono fun e he => List.mem_flatMap.2 ⟨p, hp1, he⟩
/-- A vertex's node, told. -/
theorem node_X (hR : Rt V S T) (hL : (L : Int) < lv V) (hu : (u : Int) < V) (w : World) :
    Calls Try.prog 21 #[vL V S T, .int .i64 (Xn V L u : Int)] w fun e w' => e = .returned (.tuple #[vT false L u 0 0, .bool true]) ∧ Below w.heap.size w w' := by
  have h1 := vxI_in hR hL hu
  have h2 := vxI_int hR hL hu
  have h3 := level_mul hR hL
  have h4 := hR.v1
  rw [Xn_in hu]
  have h := node_vertex V S T (vxI V L u : Int) hR (by omega) (by omega) w
  rw [show ((vxI V L u : Nat) : Int) - 1 = u + L * V by omega] at h
  rw [Int.add_mul_emod_self_right, Int.emod_eq_of_lt (by omega) hu, Int.add_mul_ediv_right _ _ (by omega), Int.ediv_eq_zero_of_lt (by omega) hu, Int.zero_add] at h
  exact h
theorem node_A (hR : Rt V S T) (hL : (L : Int) < lv V) (hs : (s : Int) < S) {d : Nat} (hd : d < 2) (w : World) :
    Calls Try.prog 21 #[vL V S T, .int .i64 (An V S L s d : Int)] w fun e w' => ∃ a b c2 d2, e = .returned (.tuple #[vT true a b c2 d2, .bool true]) ∧ Below w.heap.size w w' := by
  have h1 := arI_in hR hL hs hd
  have h2 := arI_int hR hL hs hd
  have h3 := slot_mul hR hs
  have h5 := nN_int hR
  rw [An_in hs hd]
  exact (node_arc V S T (arI V L s d : Int) hR (by omega) (by omega) w).mono fun e w' k => ⟨_, _, _, _, k.1, k.2⟩
end
theorem blk2_tree {w w' : World} {V S T : Int} {p gb cap e : Nat} {g : Mg9} {cs : Array Value} (hT : ∃ m, TM w V S T p gb cap m g) (ho : Only p gb w w') (hz : Blk w e 54 cs) : Blk w' e 54 cs := by
  obtain ⟨m, hT⟩ := hT
  exact hz.treap hT ho (by decide) (by decide)
theorem info_22 : (Try.prog.info? 54).map (fun i => (i.zero, i.size, i.bytes)) = some (some (.agg #[.int .i64 0, .int .i64 0]), 2, 16) := by kernel_rfl
/-- A graph's numbers. -/
def grN (gr : List (Option (Nat × Nat))) : List Value := gr.flatMap fun e => [.int .i64 (end1 e), .int .i64 (end2 e)]
theorem grN_len (gr : List (Option (Nat × Nat))) : (grN gr).length = gr.length * 2 := by
  induction gr with
  | nil => rfl
  | cons e l ih =>
    have : grN (e :: l) = .int .i64 (end1 e) :: .int .i64 (end2 e) :: grN l := rfl
    rw [this]; simp only [List.length_cons, ih]; omega
theorem grN_at : ∀ (gr : List (Option (Nat × Nat))) (k : Nat) (e : Option (Nat × Nat)), gr[k]? = some e → (grN gr)[k * 2]? = some (.int .i64 (end1 e)) ∧ (grN gr)[k * 2 + 1]? = some (.int .i64 (end2 e))
  | [], k, e, h => by simp at h
  | a :: l, 0, e, h => by simp at h; subst h; exact ⟨rfl, rfl⟩
  | a :: l, k + 1, e, h => by
    have := grN_at l k e (by simpa using h)
    have e0 : grN (a :: l) = .int .i64 (end1 a) :: .int .i64 (end2 a) :: grN l := rfl
    rw [e0, show (k + 1) * 2 = k * 2 + 1 + 1 by omega, show (k * 2 + 1 + 1) + 1 = (k * 2 + 1) + 1 + 1 by omega]
    simpa using this
/-- append of a graph's edges onto none. -/
theorem wpList_copy {w : World} {gr : List (Option (Nat × Nat))} {b n cap : Nat} {zs : Array Value} {ops : Array Oper} {rest : List Oper} {o : Oper} {a : Act} {Q : Exit → Act → World → Prop} (hgd : o.guard = none) (s x : Operand)
    (ho : o.op = .call { callee := .builtin .append, args := #[s, x], argTypes := #[53, 53] })
    (hs : a.eval s = .slice (some ⟨w.heap.size, 0, none⟩) 0 0) (hx : a.eval x = .slice (some ⟨b, 0, none⟩) n cap) (hn : gr.length = n) (h0 : 0 < n) (hz : Blk w b 54 zs) (hc : ∀ k e, gr[k]? = some e → zs[k * 2]? = some (.int .i64 (end1 e)) ∧ zs[k * 2 + 1]? = some (.int .i64 (end2 e))) (hl : n ≤ 1000)
    (hK : ∀ g c w' cs, Blk w' g 54 cs → w.heap.size ≤ g → Below w.heap.size w w' → (∀ k e, gr[k]? = some e → cs[k * 2]? = some (.int .i64 (end1 e)) ∧ cs[k * 2 + 1]? = some (.int .i64 (end2 e))) → wpList Try.prog ops Q rest (a.put o.dst (.slice (some ⟨g, 0, none⟩) n c)) w') : wpList Try.prog ops Q (o :: rest) a (w.alloc (.cells #[] 54)) := by
  obtain ⟨i0, hi0, hz0, hz1, hz2⟩ := info_parts info_22
  have hown : (w.alloc (.cells #[] 54)).ownsRow w.heap.size 54 2 (.slice (some ⟨w.heap.size, 0, none⟩) 0 0) 0 [] := ⟨rfl, .inr ⟨_, 0, #[], rfl, Nat.le_refl _, Blk.new w _ _, Nat.le_refl _, by simp [maxLen], rfl, rfl⟩⟩
  have hb : b < w.heap.size := hz.lt
  have hz' : Blk (w.alloc (.cells #[] 54)) b 54 zs := hz.alloc _
  refine wpList_append_lies (P := Try.prog) (w.alloc (.cells #[] 54)) hgd s x 53 ho w.heap.size 54 i0 _ 2 16 Try.underlying53 hi0 hz0 hz1 hz2 rfl (by omega) _ 0 [] hs hown ⟨b, 0, none⟩ n cap (grN gr) hx (by rw [grN_len, hn]) ?_ ?_ h0 (by simp only [maxLen]; omega) (by omega) (by simp) _ rfl ?_
  · intro j u hj
    have hjl := (List.getElem?_eq_some_iff.1 hj).1
    rw [grN_len] at hjl
    have he : gr[j / 2]? = some (gr[j / 2]'(by omega)) := List.getElem?_eq_getElem _
    have q1 := grN_at gr _ _ he
    have q2 := hc _ _ he
    rw [Addr.add_lit, Nat.zero_add, hz'.cell]
    rcases Nat.mod_two_eq_zero_or_one j with h | h
    · rw [show j / 2 * 2 = j by omega] at q1 q2
      rw [q2.1, ← hj, q1.1]
    · rw [show j / 2 * 2 + 1 = j by omega] at q1 q2
      rw [q2.2, ← hj, q1.2]
  · intro u hu
    obtain ⟨e, _, h⟩ := List.mem_flatMap.1 hu
    simp at h
    rcases h with rfl | rfl <;> rfl
  · intro g c w' h1 h2 h3 h4
    rw [Nat.zero_add] at h1 ⊢
    rcases h1.2 with ⟨hn1, _⟩ | ⟨g2, c2, cur, e2, hb2, hg2, k1, k2, k3, k4⟩
    · cases hn1
    · injection e2 with e1 e2 e3
      injection e1 with e1
      injection e1 with e1
      subst e1
      refine hK g c w' cur hg2 hb2 (((Below.refl _ _).alloc (Nat.le_refl w.heap.size) _).grown h2 (by simp) (fun r hr => ?_)) fun k e he => ?_
      · have e9 : w.heap.size = r := by injection hr
        omega
      · have hk := (List.getElem?_eq_some_iff.1 he).1
        have q1 := grN_at gr _ _ he
        rw [List.nil_append] at k4
        rw [← k4] at q1
        rw [List.getElem?_take_of_lt (by omega), List.getElem?_take_of_lt (by omega)] at q1
        simpa using q1

/-- A copied graph, an edge taken away. -/
theorem GI.copied {w : World} {gr : List (Option (Nat × Nat))} {g9 c9 y n : Nat} {cs : Array Value} (hz : Blk w g9 54 cs) (hn : gr.length = n) (hc : ∀ k e, gr[k]? = some e → cs[k * 2]? = some (.int .i64 (end1 e)) ∧ cs[k * 2 + 1]? = some (.int .i64 (end2 e))) (hy : y < n) :
    GI ((w.setCell ⟨g9, y * 2, none⟩ (.int .i64 (-1))).setCell ⟨g9, y * 2 + 1, none⟩ (.int .i64 (-1))) (.slice (some ⟨g9, 0, none⟩) n c9) (gr.set y none) := by
  subst hn
  have h0 := hc y _ (List.getElem?_eq_getElem hy)
  have hs : y * 2 + 1 < cs.size := (Array.getElem?_eq_some_iff.1 h0.2).1
  refine ⟨g9, 0, c9, _, by rw [List.length_set], (hz.set_ (y * 2) _).set_ (y * 2 + 1) _, fun k e he => ?_⟩
  rw [Nat.zero_add]
  by_cases e1 : k = y
  · subst e1
    rw [List.getElem?_set_self hy] at he
    injection he with he
    subst he
    constructor
    · rw [Array.getElem?_setIfInBounds_ne (by omega), Array.getElem?_setIfInBounds_self_of_lt (by omega)]; rfl
    · rw [Array.getElem?_setIfInBounds_self_of_lt (by rw [Array.size_setIfInBounds]; omega)]; rfl
  · rw [List.getElem?_set_ne (Ne.symm e1)] at he
    obtain ⟨q1, q2⟩ := hc k e he
    constructor
    · rw [Array.getElem?_setIfInBounds_ne (by omega), Array.getElem?_setIfInBounds_ne (by omega)]; exact q1
    · rw [Array.getElem?_setIfInBounds_ne (by omega), Array.getElem?_setIfInBounds_ne (by omega)]; exact q2

end Go.Proofs.Ytijpflnbjcoidaa
