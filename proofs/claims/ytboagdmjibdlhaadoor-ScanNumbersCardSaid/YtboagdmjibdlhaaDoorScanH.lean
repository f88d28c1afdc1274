/- Lists of tokens in memory; Equal of such; contract of Join. -/
import Derived.Test.YtboagdmjibdlhaaDoorScanG
import Derived.Test.YtboagdmjibdlhaaDoorValQ
namespace Go.Proofs.YtboagdmjibdlhaaDoor
set_option maxRecDepth 100000
open Go.RowKit

def listA (a : Option Addr) (n c : Nat) (t : List Atom) : Tr := .lst a n c fun i => .one (t.getD i .nil)

theorem lies_ownA {w : World} {B : Nat} {a : Option Addr} {c : Nat} {t : List Atom} (h : w.ownsRow B 20 1 (.slice a t.length c) t.length (vals t)) : (listA a t.length c t).Lies w := by
  refine ⟨fun hn => ?_, fun _ _ => trivial⟩
  rcases h.2 with ⟨hv, h0⟩ | ⟨g, cap, cur, hv, _, hg, hnc, _, hcs, htake⟩
  · omega
  · simp only [Value.slice.injEq, true_and] at hv
    obtain ⟨ha, rfl⟩ := hv
    refine ⟨g, cur, ha, hg, fun i hi => ?_⟩
    have h1 : (cur.toList.take (t.length * 1))[i]? = some (t.getD i .nil).val := by
      rw [htake]
      simp only [vals, List.getElem?_map, List.getD_eq_getElem?_getD, List.getElem?_eq_getElem hi]
      rfl
    rw [List.getElem?_take_of_lt (by omega)] at h1
    rw [List.getElem?_eq_getElem (by rw [Array.length_toList]; omega)] at h1
    rw [Array.getElem?_eq_getElem (by omega)]
    exact h1

theorem listA_evs (a : Option Addr) (c : Nat) (t : List Atom) : (listA a t.length c t).evs = .op :: (t.map Ev.one ++ [.cl]) := by
  simp only [listA, Tr.evs, List.cons_append]
  congr 1
  congr 1
  have : ∀ (l : List Nat), (l.flatMap fun i => [Ev.one (t.getD i .nil)]) = l.map fun i => Ev.one (t.getD i .nil) := by
    intro l
    induction l with
    | nil => rfl
    | cons i l ih => simp only [List.flatMap_cons, List.map_cons, ih, List.singleton_append]
  rw [this]
  apply List.ext_getElem
  · simp
  · intro i h1 h2
    simp at h1 h2
    simp [List.getD_eq_getElem?_getD, h2]

theorem listA_small (a : Option Addr) (c : Nat) (t : List Atom) (h : t.length ≤ 1000000) : (listA a t.length c t).evs.length ≤ 900000000 := by
  rw [listA_evs]
  simp
  omega

theorem equal_listsA (a b : Option Addr) (c c' : Nat) (t t' : List Atom) (w : World) (h : (listA a t.length c t).Lies w) (h' : (listA b t'.length c' t').Lies w) (hn : t.length ≤ 1000000) (hn' : t'.length ≤ 1000000) :
    Calls Tryd.prog 25 #[.iface 29 (.slice a t.length c), .iface 29 (.slice b t'.length c')] w fun e w' => e = .returned (.bool (onesEq t t')) ∧ Below w.heap.size w w' := by
  have h := equal_any (listA a t.length c t) (listA b t'.length c' t') w h h' (listA_small a c t hn) (listA_small b c' t' hn')
  rw [listA_evs, listA_evs] at h
  simp only [sameE, sameE_ones, Bool.and_true] at h
  exact h

theorem say_atomA (a : Atom) (w : World) (hs : Says w a) (hl : (bl (textA a)).length ≤ 1000000000) :
    Calls Tryd.prog 13 #[a.val] w fun e w' => e = .returned (.string (textA a)) ∧ Below w.heap.size w w' := by
  have h := say_any (.one a) w trivial (by show 1 ≤ 900000000; decide) (fun b hb => by simp [Tr.evs] at hb; subst hb; exact hs) (by simp [Tr.evs, sayE]; simp [bl] at hl; omega)
  have e : (⟨(sayE false (Tr.one a).evs).toArray⟩ : ByteArray) = textA a := by simp [Tr.evs, sayE]
  rw [e] at h
  exact h

/-- The texts of tokens, a blank ahead of each but the first (bh: there was one). -/
def joinB : Bool → List Atom → List UInt8
  | _, [] => []
  | bh, a :: l => (if bh then [32] else []) ++ (bl (textA a) ++ joinB true l)

theorem joinB_app : ∀ (l m : List Atom) (bh : Bool), joinB bh (l ++ m) = joinB bh l ++ joinB (bh || !l.isEmpty) m
  | [], m, bh => by simp [joinB]
  | a :: l, m, bh => by
    have h := joinB_app l m true
    simp [joinB, h]
theorem joinB_take (t : List Atom) (k : Nat) : (joinB false (t.take k)).length ≤ (joinB false t).length := by
  have h := joinB_app (t.take k) (t.drop k) false
  rw [List.take_append_drop] at h
  rw [h, List.length_append]
  omega
theorem joinB_succ (t : List Atom) (k : Nat) (hk : k < t.length) : joinB false (t.take (k + 1)) = joinB false (t.take k) ++ ((if k = 0 then [] else [32]) ++ bl (textA (t.getD k .nil))) := by
  have e : t.take (k + 1) = t.take k ++ [t.getD k .nil] := by
    rw [List.take_add_one, List.getElem?_eq_getElem hk, List.getD_eq_getElem?_getD, List.getElem?_eq_getElem hk]
    rfl
  rw [e, joinB_app]
  congr 1
  cases k with
  | zero => simp [joinB]
  | succ k =>
    have : (t.take (k + 1)).isEmpty = false := by
      cases t with
      | nil => simp at hk
      | cons a l => simp
    rw [this]
    simp [joinB]

theorem wb_32 (B b : Nat) (l : List UInt8) (w : World) (h : Bld w B b l) (hlen : l.length + 1 ≤ 140737488355328) (hBw : B ≤ w.heap.size) :
    Calls Tryd.prog 34 #[.pointer (some ⟨b, 0, none⟩), .int .u8 32] w fun e w' => e = .returned .nilIface ∧ Bld w' B b (l ++ [32]) ∧ Kept B b w w' := wbyte_any B b l 32 w h hlen hBw

/-- What holds at each round's head of Join. -/
def JoinRel (w : World) (t : List Atom) (i : Value) (wr : World) : Prop :=
  ∃ k : Nat, i = .int .i64 k ∧ k ≤ t.length ∧ Bld wr w.heap.size w.heap.size (joinB false (t.take k)) ∧ Below w.heap.size w wr

set_option maxHeartbeats 1000000 in
theorem join_any (a : Option Addr) (c : Nat) (t : List Atom) (w : World) (h : (listA a t.length c t).Lies w) (hn : t.length ≤ 1000000) (hs : ∀ x ∈ t, Says w x) (hl : (joinB false t).length ≤ 1000000000) :
    Calls Tryd.prog 24 #[.slice a t.length c] w fun e w' => e = .returned (.string ⟨(joinB false t).toArray⟩) ∧ Below w.heap.size w w' := by
  have HH := Lib.hid h; clear h
  have HS := Lib.hid hs; clear hs
  go_enter Tryd.func24, Tryd.ntmps24
  go_wp2_with fail
  go_loopw [8] (fun i wr => JoinRel w t i wr) (fun i _ => t.length - (intOf i).toNat)
  case atStart =>
    refine ⟨0, rfl, Nat.zero_le _, ?_, (Below.refl _ _).alloc (Nat.le_refl _) _⟩
    exact .inl ⟨Nat.le_refl _, .slice none 0 0, Blk.new w _ _, ⟨rfl, .inl ⟨rfl, rfl⟩⟩, by simp [Value.ownBlock]⟩
  case round =>
    obtain ⟨k, rfl, hk, hb, B⟩ := hrel
    by_cases hlt : k < t.length
    · obtain ⟨g, cs, rfl, hv, hc⟩ := HH.out.1 (by omega)
      have c0 : wr.cell? ⟨g, k, none⟩ = some (t.getD k .nil).val := by
        rw [B.cell hv.lt, hv.cell k]; exact hc k hlt
      have hmem : t.getD k .nil ∈ t := by
        rw [List.getD_eq_getElem?_getD, List.getElem?_eq_getElem hlt]; exact List.getElem_mem hlt
      have hsay := (HS.out _ hmem).below B
      have hsucc := Lib.hid (joinB_succ t k hlt)
      have htk := joinB_take t (k + 1)
      rw [hsucc.out] at htk
      have HM := Lib.hid hmem
      clear hv hc hmem
      generalize hJ : joinB false (t.take k) = J at *
      generalize t.getD k .nil = x at *
      clear hJ
      have HSay := Lib.hid hsay; clear hsay
      have HB := Lib.hid hb; have HBe := Lib.hid B; clear hb B
      have i0' : (0 : Int) ≤ (k : Int) := Int.natCast_nonneg _
      have i1' : (k : Int) < (t.length : Int) := by omega
      by_cases h0 : k = 0
      · subst h0
        simp only [if_true, List.nil_append, List.length_append] at htk
        have hxl : (bl (textA x)).length ≤ 1000000000 := by omega
        have HX := Lib.hid (fun w hs => say_atomA x w hs hxl)
        generalize x.val = v at *
        go_wp2_with fail
        refine (HX.out _ HSay.out).mono ?_; rintro e w1 ⟨rfl, b1⟩
        have HB1 := Lib.hid (HB.out.below b1); have HBe1 := Lib.hid (keepB HBe.out b1)
        clear b1 HB HBe HSay
        go_wp2_with fail
        refine (wba_any _ _ J (textA x) w1 HB1.out (by show _ + (bl (textA x)).length ≤ _; omega) HBe1.out.size).mono ?_; rintro e w2 ⟨v2, rfl, hb2, hk2⟩
        have HB2 := Lib.hid hb2; have HBe2 := Lib.hid (HBe1.out.trans hk2.1)
        clear hb2 hk2 HB1 HBe1
        go_wp2_with fail
        go_roundw
        case rel => exact ⟨0 + 1, by go_num, hlt, by rw [hsucc.out]; exact HB2.out, HBe2.out⟩
        case measure => simp [intOf]; omega
      · rw [if_neg h0] at htk
        simp only [List.length_append, List.length_cons, List.length_nil] at htk
        have hxl : (bl (textA x)).length ≤ 1000000000 := by omega
        have HX := Lib.hid (fun w hs => say_atomA x w hs hxl)
        generalize x.val = v at *
        have k0 : (0 : Int) < (k : Int) := by omega
        go_wp2_with fail
        refine (wb_32 _ _ J wr HB.out (by omega) HBe.out.size).mono ?_; rintro e w0 ⟨rfl, hb0, hk0⟩
        have HB0 := Lib.hid hb0; have HBe0 := Lib.hid (HBe.out.trans hk0.1)
        have HSay0 := HSay
        clear HB HBe
        have c1 : w0.cell? ⟨g, k, none⟩ = some v := by
          have hg : g < w.heap.size := by
            obtain ⟨g', cs', hg', hv', _⟩ := HH.out.1 (by omega)
            injection hg' with hg'
            injection hg' with hg'
            subst hg'
            exact hv'.lt
          rw [hk0.1.cell (p := ⟨g, k, none⟩) hg]; exact c0
        have HSay1 : Hid (Says w0 x) := (HS.out x HM.out).below HBe0.out
        clear hb0 hk0 c0 HSay HSay0
        go_wp2_with fail
        refine (HX.out _ HSay1.out).mono ?_; rintro e w1 ⟨rfl, b1⟩
        have HB1 := Lib.hid (HB0.out.below b1); have HBe1 := Lib.hid (keepB HBe0.out b1)
        clear b1 HB0 HBe0 HSay1
        go_wp2_with fail
        refine (wba_any _ _ (J ++ [32]) (textA x) w1 HB1.out (by show _ + (bl (textA x)).length ≤ _; simp; omega) HBe1.out.size).mono ?_; rintro e w2 ⟨v2, rfl, hb2, hk2⟩
        have HB2 := Lib.hid hb2; have HBe2 := Lib.hid (HBe1.out.trans hk2.1)
        clear hb2 hk2 HB1 HBe1
        go_wp2_with fail
        go_roundw
        case rel => exact ⟨k + 1, by go_num, hlt, by rw [hsucc.out, if_neg h0, ← List.append_assoc]; exact HB2.out, HBe2.out⟩
        case measure => simp [intOf]; omega
    · obtain rfl : k = t.length := by omega
      rw [List.take_of_length_le (Nat.le_refl _)] at hb
      go_wp2_with fail
      refine (Tryd.Builder_String_any_k _ _ _ _ hb B.size).mono ?_; rintro e w4 ⟨rfl, hb4, B4, O4⟩
      go_wp2_with fail
      go_ret
      exact ⟨rfl, B.trans B4⟩
end Go.Proofs.YtboagdmjibdlhaaDoor
