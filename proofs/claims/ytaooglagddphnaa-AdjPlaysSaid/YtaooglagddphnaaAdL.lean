/- First and List of lists. -/
import Derived.Test.YtaooglagddphnaaAdK
namespace Go.Proofs.Ytaooglagddphnaa
open Go.RowKit

set_option maxRecDepth 100000

theorem nodup_len12 : ∀ {S : Nat} {l : List Nat}, l.Nodup → (∀ x ∈ l, x < S) → l.length ≤ S
  | 0, l, _, h => by
    cases l with
    | nil => simp
    | cons a l => exact absurd (h a (by simp)) (by omega)
  | S + 1, l, hn, h => by
    have h1 := nodup_len12 (S := S) (l := l.erase S) (hn.erase S) fun x hx => by
      have h2 := (List.Nodup.mem_erase_iff hn).1 hx
      have h3 := h x h2.2
      omega
    have h4 := List.length_erase (a := S) (l := l)
    split at h4 <;> omega
/-- What First tells. -/
def fsV : List Nat → Value
  | [] => .tuple #[.int .i64 0, .bool false]
  | s :: _ => .tuple #[.int .i64 (s : Int), .bool true]
/-- What List has told so far. -/
def LtR12 (w0 : World) (V S T : Int) (p gb cap m : Nat) (f : Nat → Int) (mk : Nat → Nat) (ts : List Tp) (L : List Nat) (rv vs i : Value) (W : World) : Prop :=
  ∃ k, k ≤ L.length ∧ i = .int .i64 ((k : Nat) : Int) ∧ LU W rv L ∧ LI W vs ((L.take k).map fun x => (x - 1) / 2) ∧ (∀ k, bk vs = some k → w0.heap.size ≤ k) ∧ TA W V S T p gb cap m f mk ts ∧ Only p gb w0 W
/-- What List leaves. -/
def LtD12 (V S T : Int) (p gb cap m : Nat) (f : Nat → Int) (mk : Nat → Nat) (ts : List Tp) (L : List Nat) (w : World) (e : Ending) (w' : World) : Prop :=
  ∃ vs, e = .returned vs ∧ LI w' vs L ∧ (∀ k, bk vs = some k → w.heap.size ≤ k) ∧ TA w' V S T p gb cap m f mk ts ∧ Only p gb w w'
section
variable {V S T : Int} {w w' w0 : World} {p gb cap m s u v l b lb : Nat} {f : Nat → Int} {mk : Nat → Nat} {ts : List Tp} {q : Nat → Nat → List Nat} {bs : List E1} {r : Option Nat}
theorem LU.grown_li {rv vs : Value} {L l2 : List Nat} (h : LU w rv L) (hL : LI w vs l2) (hg : w.grownBy w' (bk vs)) : LU w' rv L := h.keep fun b hb => by
  obtain ⟨a, cap, rfl, h1, h2, h3, h4⟩ := h
  rcases Nat.eq_zero_or_pos cap with rfl | hc
  · rw [bk_zero] at hb; cases hb
  · obtain ⟨b', off, zs, rfl, hz, _⟩ := h4 hc
    rw [bk_some hc] at hb; cases hb
    exact hg.block _ hz.lt fun e => hL.ne_blk hz (by decide) e.symm
/-- A list's slots: each once. -/
theorem dl_nodup (h : LK q bs) (hq : LQ V S T (f) q) (hs : bs.Pairwise fun a b => a.s ≠ b.s ∧ ¬ (a.u = b.u ∧ a.v = b.v)) (hne : ∀ e ∈ bs, e.u ≠ e.v) : (dl q v l).Nodup := by
  have uniq : ∀ e ∈ bs, ∀ e' ∈ bs, e.s = e'.s → e = e' := fun e he e' he' es => by
    obtain ⟨i, hi⟩ := List.mem_iff_getElem?.1 he
    obtain ⟨j, hj⟩ := List.mem_iff_getElem?.1 he'
    have ⟨h1, e1⟩ := List.getElem?_eq_some_iff.1 hi
    have ⟨h2, e2⟩ := List.getElem?_eq_some_iff.1 hj
    rcases Nat.lt_trichotomy i j with c | c | c
    · have := (List.pairwise_iff_getElem.1 hs i j h1 h2 c).1
      rw [e1, e2] at this; exact absurd es this
    · subst c; rw [hi] at hj; injection hj
    · have := (List.pairwise_iff_getElem.1 hs j i h2 h1 c).1
      rw [e1, e2] at this; exact absurd es.symm this
  unfold dl
  refine List.pairwise_map.2 (List.Pairwise.imp_of_mem ?_ (hq.nd v l))
  intro a b ha hb hab e
  obtain ⟨e1, g1, g2, g3⟩ := (h v l a).1 ha
  obtain ⟨e2, k1, k2, k3⟩ := (h v l b).1 hb
  have := uniq e1 g1 e2 k1 (by omega)
  subst this
  have := hne e1 g1
  omega
theorem dl_len (hR : Rt V S T) (h : LK q bs) (hq : LQ V S T f q) (hs : bs.Pairwise fun a b => a.s ≠ b.s ∧ ¬ (a.u = b.u ∧ a.v = b.v)) (hne : ∀ e ∈ bs, e.u ≠ e.v) : ((q v l).length : Int) ≤ S := by
  have h1 := nodup_len12 (S := S.toNat) (dl_nodup (v := v) (l := l) h hq hs hne) (fun x hx => by
    obtain ⟨y, hy, rfl⟩ := List.mem_map.1 hx
    have := hq.rg v l y hy
    omega)
  unfold dl at h1
  rw [List.length_map] at h1
  have := hR.s1
  omega
theorem behind_zero (A : TA w V S T p gb cap m f mk ts) (hv : (v : Int) < V) (hl : (l : Int) < lv V) (hm : m ≤ 100000000) :
    Calls Try.prog 58 #[vA V S T p, vLs v l, .int .u64 0] w (Dta V S T p gb cap (m + 1) f mk ts (.int .u64 (f (nxA V S T v l 0))) w) := behind_any (x := 0) A hv hl (by have := A.hR.s1; omega) hm rfl
theorem first_any12 (A : TA w V S T p gb cap m f mk ts) (hQ : LQ V S T f q) (hv : (v : Int) < V) (hl : (l : Int) < lv V) (hm : m ≤ 99900000) {vI lI : Int} (hvI : vI = (v : Int)) (hlI : lI = (l : Int)) :
    Calls Try.prog 19 #[vA V S T p, .int .i64 vI, .int .i64 lI] w (Dta V S T p gb cap (m + 1) f mk ts (fsV (dl q v l)) w) := by
  subst hvI hlI
  have H := Lib.hid (AX.new A)
  have HR := Lib.hid A.hR
  have hh := (hQ.pt v l hv hl).1
  have hle := hQ.head_le (v := v) (l := l) A.hR.s1
  have hz := hQ.head_zero (v := v) (l := l)
  have hfs : fsV (dl q v l) = if (q v l).headD 0 = 0 then .tuple #[.int .i64 0, .bool false] else .tuple #[.int .i64 ((((q v l).headD 0 - 1) / 2 : Nat) : Int), .bool true] := by
    unfold dl
    by_cases c : q v l = []
    · rw [if_pos (hz.2 c), c]; rfl
    · rw [if_neg fun e => c (hz.1 e)]
      cases hq9 : q v l with
      | nil => exact absurd hq9 c
      | cons x L => rfl
  rw [hfs]
  clear hfs hz hQ A
  generalize (q v l).headD 0 = h at hh hle ⊢
  have HH : Hid (f (nxA V S T v l 0) = (h : Int)) := Lib.hid (by unfold nxA; rw [if_pos rfl]; exact hh)
  clear hh
  by_cases h0 : h = 0
  · subst h0
    rw [if_pos rfl]
    as_aux_lemma =>
    go_enter Try.func19, Try.ntmps19
    go_wp2_with fail
    generalize (w.alloc (.cells #[.int .i64 V, .int .i64 S, .int .i64 T, .iface 84 (pmV p), .int .i64 1, .int .i64 0, .int .i64 V, .int .i64 S, .int .i64 T, .iface 84 (pmV p)] 38)) = w1 at H ⊢
    generalize w.heap.size = b at H ⊢
    have HD := Lib.hid H.out.drew
    have hrule := AjB.rule b V S T p
    go_region_held3 (fun W => AjB W b V S T p) (first | (with_reducible assumption) | (with_reducible exact H3.out.e) | (with_reducible exact H2.out.e) | (with_reducible exact HD.out.e))
      (first
        | (go_at_call 58; ((with_reducible refine (behind_zero HD.out.m hv hl (by omega)).mono ?_); rintro e w2 ⟨rfl, A2, O2⟩; rw [HH.out]; have H2 := Lib.hid (HD.out.next A2 O2)))
        | (go_at_call 57; ((with_reducible refine (slot_zero HR.out _).mono ?_); rintro e w3 ⟨rfl, hb3⟩; have H3 := Lib.hid (H2.out.below hb3)))
        | fail)
    go_wp2_with fail
    go_ret2
    exact ⟨rfl, H3.out.m, H3.out.o⟩
  · rw [if_neg h0]
    as_aux_lemma =>
    obtain ⟨s9, hs9⟩ : ∃ s9, (h - 1) / 2 = s9 := ⟨_, rfl⟩
    rw [hs9]
    have HS := Lib.hid hs9
    clear hs9
    have hz0 : (0 : Int) ≤ (h : Int) := Int.natCast_nonneg _
    go_enter Try.func19, Try.ntmps19
    go_wp2_with fail
    generalize (w.alloc (.cells #[.int .i64 V, .int .i64 S, .int .i64 T, .iface 84 (pmV p), .int .i64 1, .int .i64 0, .int .i64 V, .int .i64 S, .int .i64 T, .iface 84 (pmV p)] 38)) = w1 at H ⊢
    generalize w.heap.size = b at H ⊢
    have HD := Lib.hid H.out.drew
    have hrule := AjB.rule b V S T p
    go_region_held3 (fun W => AjB W b V S T p) (first | (with_reducible assumption) | (with_reducible exact H3.out.e) | (with_reducible exact H2.out.e) | (with_reducible exact HD.out.e))
      (first
        | (go_at_call 58; ((with_reducible refine (behind_zero HD.out.m hv hl (by omega)).mono ?_); rintro e w2 ⟨rfl, A2, O2⟩; rw [HH.out]; have H2 := Lib.hid (HD.out.next A2 O2)))
        | (go_at_call 57; ((with_reducible refine (slot_some HR.out (by omega) hle HS.out _).mono ?_); rintro e w3 ⟨rfl, hb3⟩; have H3 := Lib.hid (H2.out.below hb3)))
        | fail)
    go_wp2_with fail
    go_ret2
    exact ⟨rfl, H3.out.m, H3.out.o⟩
theorem list_any12 (A : TA w V S T p gb cap m f mk ts) (hQ : LQ V S T f q) (hlen : ((q v l).length : Int) ≤ S) (hv : (v : Int) < V) (hl : (l : Int) < lv V) (hm : m ≤ 99900000) {vI lI : Int} (hvI : vI = (v : Int)) (hlI : lI = (l : Int)) :
    Calls Try.prog 20 #[vA V S T p, .int .i64 vI, .int .i64 lI] w (LtD12 V S T p gb cap (m + 1 + (q v l).length) f mk ts (dl q v l) w) := by
  subst hvI hlI
  have H := Lib.hid (AX.new A)
  have s48 := A.hR.s2
  have hQ9 := Lib.hid hQ
  have HRG : Hid (∀ x ∈ q v l, 1 ≤ x ∧ x ≤ 96) := Lib.hid fun x hx => by have := hQ.rg v l x hx; omega
  have HLN := Lib.hid hlen
  obtain ⟨L, hL⟩ : ∃ L, q v l = L := ⟨_, rfl⟩
  unfold dl
  rw [hL] at HRG hlen ⊢
  have HL := Lib.hid hL
  clear A hQ hL
  go_enter Try.func20, Try.ntmps20
  go_wp2_with fail
  generalize (w.alloc (.cells #[.int .i64 V, .int .i64 S, .int .i64 T, .iface 84 (pmV p), .int .i64 1, .int .i64 0, .int .i64 V, .int .i64 S, .int .i64 T, .iface 84 (pmV p)] 38)) = w1 at H ⊢
  generalize w.heap.size = b at H ⊢
  refine (row_any14 H.out.m hQ9.out hv hl hm).mono ?_; rintro e w2 ⟨rv, rfl, L2, N2, A2, O2⟩
  rw [take_all14 HLN.out, HL.out] at L2 A2
  have H2 := Lib.hid (H.out.next A2 O2)
  clear H A2 O2 N2 hQ9 HLN
  obtain ⟨ra, rc, rfl, _, _⟩ := L2.shape
  obtain ⟨n, hn⟩ : ∃ n, L.length = n := ⟨_, rfl⟩
  have HN := Lib.hid hn
  rw [hn] at L2 hlen H2 ⊢
  have HRel : Hid (LtR12 w V S T p gb cap (m + 1 + n) f mk ts L (.slice ra n rc) (.slice none 0 0) (.int .i64 0) w2) := Lib.hid ⟨0, Nat.zero_le _, rfl, L2, LI.nil _, fun i hi => by simp [bk] at hi, H2.out.m, H2.out.o⟩
  clear L2 H2 hn
  go_wp2_with fail
  go_loopw [7, 18] (fun vs i wr => LtR12 w V S T p gb cap (m + 1 + n) f mk ts L (.slice ra n rc) vs i wr) (fun _ i _ => n - (intOf i).toNat)
  case atStart => exact HRel.out
  case round =>
    clear HRel
    obtain ⟨k, hk, rfl, hU, hI, hB, hA, hO⟩ := hrel
    rw [HN.out] at hk
    have HU := Lib.hid hU
    have HI := Lib.hid hI
    have HB := Lib.hid hB
    have HA := Lib.hid (And.intro hA hO)
    have ht : ((L.take k).map fun x => (x - 1) / 2).length = k := by rw [List.length_map, List.length_take, HN.out]; omega
    obtain ⟨ao, vc, hvs, _, _⟩ := hI.shape
    rw [ht] at hvs
    subst hvs
    have hp5 : ((L.take k).map fun x => (x - 1) / 2).length ≤ 100000 := by omega
    clear hU hI hB hA hO ht
    by_cases hkn : k < n
    · as_aux_lemma =>
      obtain ⟨x, hx⟩ : ∃ y, L[k]? = some y := ⟨_, List.getElem?_eq_getElem (by have := HN.out; omega)⟩
      obtain ⟨b1, o1, rfl, c1⟩ := HU.out.at hx
      obtain ⟨x1, x2⟩ := HRG.out x (List.mem_of_getElem? hx)
      have HX := Lib.hid hx
      have kI : (k : Int) < (n : Int) := by omega
      have k0 : (0 : Int) ≤ (k : Int) := by omega
      obtain ⟨s9, hs9⟩ : ∃ s9, (x - 1) / 2 = s9 := ⟨_, rfl⟩
      have HS := Lib.hid hs9
      have x0I : (0 : Int) ≤ (x : Int) := by omega
      clear hx hs9
      go_wp2_with fail
      refine (at_pos x1 x2 HS.out rfl _).mono ?_; rintro e w3 ⟨rfl, hb3⟩
      have HU3 := Lib.hid (HU.out.below hb3)
      have HI3 := Lib.hid (HI.out.below hb3)
      have HA3 := Lib.hid (And.intro (HA.out.1.below hb3) (HA.out.2.trans (Only.of_below hb3)))
      clear HU HI HA hb3 c1
      go_wp2_with (at_builtin; refine wpList_append_li _ rfl _ _ rfl rfl (HI3.out.alloc _) ⟨w3.heap.size, 0, none⟩ 1 s9 rfl (cell_new1 _ _ _) hp5 ?_)
      intro v' w4 hli4 hg4 hbk4
      have HIa := HI3.out.alloc (.cells #[.int .i64 (s9 : Int)] 3)
      have HU4 := Lib.hid ((HU3.out.alloc (.cells #[.int .i64 (s9 : Int)] 3)).grown_li HIa hg4)
      have HA4 := Lib.hid (And.intro ((HA3.out.1.alloc (.cells #[.int .i64 (s9 : Int)] 3)).grown hg4 (HIa.ne_ta (HA3.out.1.alloc _)).1 (HIa.ne_ta (HA3.out.1.alloc _)).2) ((HA3.out.2.alloc (.cells #[.int .i64 (s9 : Int)] 3)).grown hg4 HB.out))
      have HB4 : Hid (∀ k, bk v' = some k → w.heap.size ≤ k) := by
        refine Lib.hid fun i hi => ?_
        rcases hbk4 with e | ⟨k, e, hk⟩
        · exact HB.out i (e ▸ hi)
        · rw [hi] at e; cases e
          have := HA3.out.2.size
          have := Below.size ((Below.refl w3.heap.size w3).alloc (Nat.le_refl _) (.cells #[.int .i64 (s9 : Int)] 3))
          omega
      have hRel : Hid (LtR12 w V S T p gb cap (m + 1 + n) f mk ts L (.slice (some ⟨b1, o1, none⟩) n rc) v' (.int .i64 ((k : Int) + 1)) w4) := Lib.hid ⟨k + 1, by have := HN.out; omega, by simp, HU4.out, by rw [List.take_add_one, HX.out, List.map_append]; simp only [Option.toList_some, List.map_cons, List.map_nil, HS.out]; (try rw [List.map_take]); exact hli4, HB4.out, HA4.out.1, HA4.out.2⟩
      clear HIa hli4 hg4 hbk4 HU3 HI3 HA3 HU4 HA4 HB4
      go_wp2_with fail
      go_roundw
      case rel => exact hRel.out
      case measure => simp [intOf]; omega
    · have ek : k = n := by omega
      subst ek
      have kI : ¬ (k : Int) < (k : Int) := by omega
      clear hk hkn
      as_aux_lemma =>
      go_wp2_with fail
      go_ret
      have e9 : L.take k = L := by rw [← HN.out, List.take_length]
      exact ⟨_, rfl, by rw [← e9]; exact HI.out, HB.out, HA.out.1.more (by have := HN.out; omega), HA.out.2⟩
end
end Go.Proofs.Ytaooglagddphnaa
