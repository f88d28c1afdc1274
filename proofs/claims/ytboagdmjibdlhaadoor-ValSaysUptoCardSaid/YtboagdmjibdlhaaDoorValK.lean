/- Contract of Say of any value. -/
import Derived.Test.YtboagdmjibdlhaaDoorValJ
namespace Go.Proofs.YtboagdmjibdlhaaDoor
set_option maxRecDepth 100000
open Go.RowKit

/-- What Say has at hand: a walk with what is left, a builder with what was said. -/
structure SaySt (w0 w : World) (b p : Nat) (rest : List Ev) (l : List UInt8) : Prop where
  walk : ∃ q cap m st, Wk w w0.heap.size p q cap m st ∧ st ≠ [] ∧ rem st = rest
  bld : Bld w w0.heap.size b l
  below : Below w0.heap.size w0 w

section
variable {w0 w : World} {b p : Nat} {rest : List Ev} {l : List UInt8}

theorem st_next (S : SaySt w0 w b p rest l) :
    Calls Tryd.prog 33 #[.pointer (some ⟨p, 0, none⟩)] w fun e w' => e = .returned (.tuple #[.int .i64 (code rest), told rest]) ∧ (∀ ev r, rest = ev :: r → SaySt w0 w' b p r l) ∧ Bld w' w0.heap.size b l ∧ Below w0.heap.size w0 w' := by
  obtain ⟨q, cap, m, st, A, hne, rfl⟩ := S.walk
  refine (next_any A hne).mono ?_
  rintro e w' ⟨rfl, O, q', hq', h⟩
  obtain ⟨cs, hc⟩ := A.q_blk
  have hb := S.bld.only O A.own hc (by decide) (by decide) (by decide) (by decide)
  have hB := O.below S.below S.below.size A.base A.q_base
  refine ⟨rfl, fun ev r hr => ?_, hb, hB⟩
  obtain ⟨cap', m', st', hs, hr', A'⟩ := h ev r hr
  exact ⟨⟨q', cap', m', st', A', hs, hr'⟩, hb, hB⟩

theorem SaySt.kept {w' : World} {l' : List UInt8} (S : SaySt w0 w b p rest l) (hb : Bld w' w0.heap.size b l') (hk : Kept w0.heap.size b w w') : SaySt w0 w' b p rest l' := by
  obtain ⟨q, cap, m, st, A, hne, hr⟩ := S.walk
  exact ⟨⟨q, cap, m, st, A.others S.bld hk, hne, hr⟩, hb, S.below.trans hk.1⟩

theorem st_byte (S : SaySt w0 w b p rest l) (c : UInt8) (hl : l.length + 1 ≤ 140737488355328) :
    Calls Tryd.prog 34 #[.pointer (some ⟨b, 0, none⟩), .int .u8 (c.toNat : Int)] w fun e w' => e = .returned .nilIface ∧ SaySt w0 w' b p rest (l ++ [c]) :=
  (wbyte_any _ b l c w S.bld hl S.below.size).mono fun _ _ ⟨he, hb, hk⟩ => ⟨he, S.kept hb hk⟩

theorem st_32 (S : SaySt w0 w b p rest l) (hl : l.length + 1 ≤ 140737488355328) :
    Calls Tryd.prog 34 #[.pointer (some ⟨b, 0, none⟩), .int .u8 32] w fun e w' => e = .returned .nilIface ∧ SaySt w0 w' b p rest (l ++ [32]) := st_byte S 32 hl
theorem st_40 (S : SaySt w0 w b p rest l) (hl : l.length + 1 ≤ 140737488355328) :
    Calls Tryd.prog 34 #[.pointer (some ⟨b, 0, none⟩), .int .u8 40] w fun e w' => e = .returned .nilIface ∧ SaySt w0 w' b p rest (l ++ [40]) := st_byte S 40 hl
theorem st_41 (S : SaySt w0 w b p rest l) (hl : l.length + 1 ≤ 140737488355328) :
    Calls Tryd.prog 34 #[.pointer (some ⟨b, 0, none⟩), .int .u8 41] w fun e w' => e = .returned .nilIface ∧ SaySt w0 w' b p rest (l ++ [41]) := st_byte S 41 hl

theorem st_str (S : SaySt w0 w b p rest l) (s : ByteArray) (hl : l.length + s.data.toList.length ≤ 140737488355328) :
    Calls Tryd.prog 36 #[.pointer (some ⟨b, 0, none⟩), .string s] w fun e w' => ∃ v, e = .returned v ∧ SaySt w0 w' b p rest (l ++ s.data.toList) :=
  (wba_any _ b l s w S.bld hl S.below.size).mono fun _ _ ⟨v, he, hb, hk⟩ => ⟨v, he, S.kept hb hk⟩

theorem st_one (S : SaySt w0 w b p rest l) (a : Atom) (hs : Says w0 a) :
    Calls Tryd.prog 37 #[a.val] w fun e w' => e = .returned (.string (textA a)) ∧ SaySt w0 w' b p rest l := by
  refine (say_one a w (hs.below S.below)).mono ?_
  rintro e w' ⟨rfl, hb⟩
  obtain ⟨q, cap, m, st, A, hne, hr⟩ := S.walk
  exact ⟨rfl, ⟨q, cap, m, st, A.below hb, hne, hr⟩, S.bld.below hb, keepB S.below hb⟩

end

/-- What holds at each round's head of Say. -/
def SayRel (w0 : World) (b p : Nat) (total : List UInt8) (k : Nat) (bh : Value) (wr : World) : Prop :=
  ∃ (h : Bool) (rest : List Ev) (l : List UInt8), bh = .bool h ∧ SaySt w0 wr b p rest l ∧ rest.length ≤ k ∧ l ++ sayE h rest = total ∧ ∀ a, Ev.one a ∈ rest → Says w0 a

set_option maxHeartbeats 800000 in
theorem say_any (x : Tr) (w : World) (hx : x.Lies w) (ex : x.evs.length ≤ 900000000) (hsay : ∀ a, Ev.one a ∈ x.evs → Says w a) (hlen : (sayE false x.evs).length ≤ 140737488355328) :
    Calls Tryd.prog 13 #[x.val] w fun e w' => e = .returned (.string ⟨(sayE false x.evs).toArray⟩) ∧ Below w.heap.size w w' := by
  have HX := Lib.hid hx; clear hx
  have HS := Lib.hid hsay; clear hsay
  generalize htot : sayE false x.evs = total at *
  have HT := Lib.hid htot; clear htot
  go_enter Tryd.func13, Tryd.ntmps13
  go_wp2_with fail
  refine (begin_walk x _ (HX.out.keep (Keeps.alloc _ _)) ex).mono ?_; rintro e w1 ⟨p, q, rfl, A1, B1, p1, q1, p1', q1'⟩
  go_wp2_with fail
  have S0 : Hid (SaySt w w1 w.heap.size p x.evs []) := by
    obtain ⟨cap, m, st, hne, hr, A⟩ := A1
    have hb0 : Bld (w.alloc (.cells #[.pointer none, .slice none 0 0] 59)) w.heap.size w.heap.size [] :=
      .inl ⟨Nat.le_refl _, .slice none 0 0, Blk.new w _ _, ⟨rfl, .inl ⟨rfl, rfl⟩⟩, by simp [Value.ownBlock]⟩
    have B0 : Below w.heap.size w (w.alloc (.cells #[.pointer none, .slice none 0 0] 59)) := (Below.refl _ _).alloc (Nat.le_refl _) _
    exact ⟨⟨q, cap, m, st, A.lower (by simp), hne, hr⟩, hb0.below B1, keepB B0 B1⟩
  clear A1 B1 p1 q1 p1' q1'
  go_loopg [5] x.evs.length (fun k bh wr => SayRel w w.heap.size p total k bh wr)
  case atStart => exact ⟨false, x.evs, [], rfl, S0.out, Nat.le_refl _, HT.out, HS.out⟩
  case round =>
    clear S0 HT HS HX ex
    obtain ⟨h, rest, l, rfl, S, hk, ht, hs⟩ := hrel
    cases rest with
    | nil =>
      have HN := Lib.hid (st_next S)
      clear S
      simp only [code, told] at HN
      simp only [sayE, List.append_nil] at ht
      subst ht
      clear hs hk
      cases h
      · go_wp2_with ((with_reducible refine HN.out.mono ?_); rintro e w3 ⟨rfl, S3, hb3, B3⟩)
        refine (Tryd.Builder_String_any_k _ _ _ _ hb3 B3.size).mono ?_; rintro e w4 ⟨rfl, hb4, B4, O4⟩
        go_wp2_with fail
        go_ret
        exact ⟨rfl, B3.trans B4⟩
      · go_wp2_with ((with_reducible refine HN.out.mono ?_); rintro e w3 ⟨rfl, S3, hb3, B3⟩)
        refine (Tryd.Builder_String_any_k _ _ _ _ hb3 B3.size).mono ?_; rintro e w4 ⟨rfl, hb4, B4, O4⟩
        go_wp2_with fail
        go_ret
        exact ⟨rfl, B3.trans B4⟩
    | cons ev r =>
     have HN := Lib.hid (st_next S)
     clear S
     cases ev with
     | op =>
      simp only [code, told] at HN
      cases h
      · have HL := Lib.hid hlen; have HTT := Lib.hid ht; have HSS := Lib.hid hs; have HK := Lib.hid hk
        clear hlen ht hs hk
        go_wp2_with ((with_reducible refine HN.out.mono ?_); rintro e w3 ⟨rfl, S3, hb3, B3⟩)
        have T3 := S3 _ _ rfl
        clear S3 hb3 B3
        refine (st_40 T3 (by have := HL.out; rw [← HTT.out] at this; simp [sayE] at this ⊢; omega)).mono ?_; rintro e w5 ⟨rfl, T5⟩
        go_wp2_with fail
        have hlt : r.length < gk := by have := HK.out; simp at this; omega
        go_roundg r.length
        case measure => exact hlt
        case rel => exact ⟨_, r, _, rfl, T5, Nat.le_refl _, by rw [← HTT.out]; simp [sayE], fun a ha => HSS.out a (List.mem_cons_of_mem _ ha)⟩
      · have HL := Lib.hid hlen; have HTT := Lib.hid ht; have HSS := Lib.hid hs; have HK := Lib.hid hk
        clear hlen ht hs hk
        go_wp2_with ((with_reducible refine HN.out.mono ?_); rintro e w3 ⟨rfl, S3, hb3, B3⟩)
        have T3 := S3 _ _ rfl
        clear S3 hb3 B3
        refine (st_32 T3 (by have := HL.out; rw [← HTT.out] at this; simp [sayE] at this; omega)).mono ?_; rintro e w4 ⟨rfl, T4⟩
        go_wp2_with fail
        refine (st_40 T4 (by have := HL.out; rw [← HTT.out] at this; simp [sayE] at this ⊢; omega)).mono ?_; rintro e w5 ⟨rfl, T5⟩
        go_wp2_with fail
        have hlt : r.length < gk := by have := HK.out; simp at this; omega
        go_roundg r.length
        case measure => exact hlt
        case rel => exact ⟨_, r, _, rfl, T5, Nat.le_refl _, by rw [← HTT.out]; simp [sayE], fun a ha => HSS.out a (List.mem_cons_of_mem _ ha)⟩
     | cl =>
      simp only [code, told] at HN
      cases h
      · have HL := Lib.hid hlen; have HTT := Lib.hid ht; have HSS := Lib.hid hs; have HK := Lib.hid hk
        clear hlen ht hs hk
        go_wp2_with ((with_reducible refine HN.out.mono ?_); rintro e w3 ⟨rfl, S3, hb3, B3⟩)
        have T3 := S3 _ _ rfl
        clear S3 hb3 B3
        refine (st_41 T3 (by have := HL.out; rw [← HTT.out] at this; simp [sayE] at this ⊢; omega)).mono ?_; rintro e w5 ⟨rfl, T5⟩
        go_wp2_with fail
        have hlt : r.length < gk := by have := HK.out; simp at this; omega
        go_roundg r.length
        case measure => exact hlt
        case rel => exact ⟨_, r, _, rfl, T5, Nat.le_refl _, by rw [← HTT.out]; simp [sayE], fun a ha => HSS.out a (List.mem_cons_of_mem _ ha)⟩
      · have HL := Lib.hid hlen; have HTT := Lib.hid ht; have HSS := Lib.hid hs; have HK := Lib.hid hk
        clear hlen ht hs hk
        go_wp2_with ((with_reducible refine HN.out.mono ?_); rintro e w3 ⟨rfl, S3, hb3, B3⟩)
        have T3 := S3 _ _ rfl
        clear S3 hb3 B3
        refine (st_41 T3 (by have := HL.out; rw [← HTT.out] at this; simp [sayE] at this ⊢; omega)).mono ?_; rintro e w5 ⟨rfl, T5⟩
        go_wp2_with fail
        have hlt : r.length < gk := by have := HK.out; simp at this; omega
        go_roundg r.length
        case measure => exact hlt
        case rel => exact ⟨_, r, _, rfl, T5, Nat.le_refl _, by rw [← HTT.out]; simp [sayE], fun a ha => HSS.out a (List.mem_cons_of_mem _ ha)⟩
     | one a =>
      simp only [code, told] at HN
      cases h
      · have HL := Lib.hid hlen; have HTT := Lib.hid ht; have HSS := Lib.hid hs; have HK := Lib.hid hk
        clear hlen ht hs hk
        go_wp2_with ((with_reducible refine HN.out.mono ?_); rintro e w3 ⟨rfl, S3, hb3, B3⟩)
        have T3 := S3 _ _ rfl
        clear S3 hb3 B3
        refine (st_one T3 a (HSS.out a (by simp))).mono ?_; rintro e w6 ⟨rfl, T6⟩
        go_wp2_with fail
        refine (st_str T6 (textA a) (by have := HL.out; rw [← HTT.out] at this; simp [sayE] at this ⊢; omega)).mono ?_; rintro e w5 ⟨v, rfl, T5⟩
        go_wp2_with fail
        have hlt : r.length < gk := by have := HK.out; simp at this; omega
        go_roundg r.length
        case measure => exact hlt
        case rel => exact ⟨_, r, _, rfl, T5, Nat.le_refl _, by rw [← HTT.out]; simp [sayE], fun a ha => HSS.out a (List.mem_cons_of_mem _ ha)⟩
      · have HL := Lib.hid hlen; have HTT := Lib.hid ht; have HSS := Lib.hid hs; have HK := Lib.hid hk
        clear hlen ht hs hk
        go_wp2_with ((with_reducible refine HN.out.mono ?_); rintro e w3 ⟨rfl, S3, hb3, B3⟩)
        have T3 := S3 _ _ rfl
        clear S3 hb3 B3
        refine (st_32 T3 (by have := HL.out; rw [← HTT.out] at this; simp [sayE] at this; omega)).mono ?_; rintro e w4 ⟨rfl, T4⟩
        go_wp2_with fail
        refine (st_one T4 a (HSS.out a (by simp))).mono ?_; rintro e w6 ⟨rfl, T6⟩
        go_wp2_with fail
        refine (st_str T6 (textA a) (by have := HL.out; rw [← HTT.out] at this; simp [sayE] at this ⊢; omega)).mono ?_; rintro e w5 ⟨v, rfl, T5⟩
        go_wp2_with fail
        have hlt : r.length < gk := by have := HK.out; simp at this; omega
        go_roundg r.length
        case measure => exact hlt
        case rel => exact ⟨_, r, _, rfl, T5, Nat.le_refl _, by rw [← HTT.out]; simp [sayE], fun a ha => HSS.out a (List.mem_cons_of_mem _ ha)⟩
end Go.Proofs.YtboagdmjibdlhaaDoor
