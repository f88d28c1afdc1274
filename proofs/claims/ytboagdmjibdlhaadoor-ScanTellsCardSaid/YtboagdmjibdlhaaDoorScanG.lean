/- Contract of Scan. -/
import Derived.Test.YtboagdmjibdlhaaDoorScanF
namespace Go.Proofs.YtboagdmjibdlhaaDoor
set_option maxRecDepth 100000
open Go.RowKit

theorem digs_ext (l : List UInt8) : Digs (l.take (ext 2 l)) := by
  induction l using len_ind with
  | h0 => intro b hb; simp at hb
  | h1 l h ih =>
    by_cases hc : cls (decL l).1 = 2
    · cases l with
      | nil => exact absurd rfl h
      | cons b r =>
        have hd := cls_2 hc
        have hb : b.toNat < 128 := by
          rcases Nat.lt_or_ge b.toNat 128 with h' | h'
          · exact h'
          · have := decL_high b r h'; omega
        have e := decL_ascii b r hb
        have ih' := ih _ (drop_lt h)
        rw [ext_hit h hc]
        rw [e] at ih' hd ⊢
        simp only [List.drop_succ_cons, List.drop_zero] at ih' ⊢
        rw [Nat.add_comm, List.take_succ_cons]
        intro c hm
        rcases List.mem_cons.1 hm with rfl | hm
        · exact hd
        · exact ih' c hm
    · rw [ext_miss hc]
      intro b hb; simp at hb

theorem digs_row {l : List UInt8} (h : l ≠ []) (hk : rowK l = 2) : Digs (l.take (rowN l)) := by
  have e : rowN l = ext 2 l := by
    rw [ext_hit h hk]
    unfold rowN; rw [hk]; rfl
  rw [e]
  exact digs_ext l

def vals (t : List Atom) : List Value := t.map Atom.val

theorem tok_iface {k : Nat} (hk : k ≤ 4) (h1 : k ≠ 1) (x : List UInt8) (h : (tokF k x).2 = 0) : ∃ u y, (tokF k x).1.val = .iface u y := by
  have hcase : k = 0 ∨ k = 1 ∨ k = 2 ∨ k = 3 ∨ k = 4 := by omega
  rcases hcase with rfl | rfl | rfl | rfl | rfl
  · exact absurd h (by simp [tokF])
  · exact absurd rfl h1
  · have ht : tokF 2 x = if badN x = true then (.nil, 41) else (.num (valN x : Int), 0) := rfl
    rw [ht] at h ⊢
    split
    · rename_i hb; rw [if_pos hb] at h; exact absurd h (by simp)
    · exact ⟨_, _, rfl⟩
  · exact ⟨_, _, rfl⟩
  · exact ⟨_, _, rfl⟩

/-- What Scan tells. -/
def Told (w w' : World) (e : Ending) (r : Res) : Prop :=
  ∃ a c, e = .returned (.tuple #[.slice a r.toks.length c, .int .i64 (r.pos : Int), .int .i64 (r.err : Int)]) ∧ w'.ownsRow w.heap.size 20 1 (.slice a r.toks.length c) r.toks.length (vals r.toks) ∧ Below w.heap.size w w'

/-- What holds at each round's head of Scan. -/
def ScanRel (w : World) (s : ByteArray) (out i : Value) (wr : World) : Prop :=
  ∃ (pos : Nat) (t : List Atom), i = .int .i64 pos ∧ pos ≤ s.size ∧ res (bl s) = Res.after t pos (res ((bl s).drop pos)) ∧ (∃ a n c, out = .slice a n c) ∧ wr.ownsRow w.heap.size 20 1 out t.length (vals t) ∧ Below w.heap.size w wr ∧ t.length ≤ pos

set_option maxHeartbeats 4000000 in
theorem scan_any (s : ByteArray) (w : World) (hs : s.size ≤ 1000000) :
    Calls Tryd.prog 17 #[.string s] w fun e w' => Told w w' e (res (bl s)) := by
  obtain ⟨i0, hi0, hz0, hz1, hz2⟩ := info_parts info_any
  go_enter Tryd.func17, Tryd.ntmps17
  go_wp2_with fail
  go_loopw [2, 3] (fun out i wr => ScanRel w s out i wr) (fun _ i _ => s.size - (intOf i).toNat)
  case atStart => exact ⟨0, [], rfl, Nat.zero_le _, by rw [List.drop_zero, after_zero _ (res_errs _).1], ⟨_, _, _, rfl⟩, ⟨rfl, .inl ⟨rfl, rfl⟩⟩, Below.refl _ _, Nat.le_refl _⟩
  case round =>
    obtain ⟨pos, t, rfl, hp, hr, ⟨va, vn, vc, rfl⟩, hown, B, htl⟩ := hrel
    have HO := Lib.hid hown; clear hown
    by_cases hlt : pos < s.size
    · have hne := drop_ne hlt
      have e1 : bl (s.extract pos s.size) = (bl s).drop pos := by
        rw [bl_extract, List.take_of_length_le (by rw [List.length_drop, bl_len]; exact Nat.le_refl _)]
      have z1 : (s.extract pos s.size).size = s.size - pos := by rw [← bl_len, e1, List.length_drop, bl_len]
      have HR := Lib.hid (fun w => row_any (s.extract pos s.size) w (by omega) (by omega))
      rw [e1] at HR
      have hK : rowK ((bl s).drop pos) ≤ 4 := cls_le _
      have hN1 := rowN_pos ((bl s).drop pos)
      have hN2 := rowN_le hne
      rw [List.length_drop, bl_len] at hN2
      have e2 : bl (s.extract pos (pos + rowN ((bl s).drop pos))) = ((bl s).drop pos).take (rowN ((bl s).drop pos)) := by
        rw [bl_extract, Nat.add_sub_cancel_left]
      have z2 : (s.extract pos (pos + rowN ((bl s).drop pos))).size = rowN ((bl s).drop pos) := by
        rw [← bl_len, e2, List.length_take, List.length_drop, bl_len]; omega
      have HT := Lib.hid (fun w => tokenOf_any (rowK ((bl s).drop pos)) (s.extract pos (pos + rowN ((bl s).drop pos))) w hK (by omega) (by omega) (fun h2 => by rw [e2]; exact digs_row hne h2))
      rw [e2] at HT
      have hres := fun h => res_ok (l := (bl s).drop pos) hne h
      have hbad := fun h => res_bad (l := (bl s).drop pos) hne h
      have hif := fun h1 => tok_iface hK h1 (((bl s).drop pos).take (rowN ((bl s).drop pos)))
      have herr := tokF_err hK (((bl s).drop pos).take (rowN ((bl s).drop pos)))
      rw [List.drop_drop] at hres
      unfold tokK at hres hbad
      clear e1 z1 e2 z2 hne
      generalize hNN : rowN ((bl s).drop pos) = N at *
      generalize rowK ((bl s).drop pos) = K at *
      generalize tokF K (((bl s).drop pos).take N) = tk at *
      clear hNN
      obtain ⟨tv, te⟩ := tk
      simp only at HT hres hbad hif herr
      have HRes := Lib.hid hr; clear hr
      have Hres := Lib.hid hres; have Hbad := Lib.hid hbad; clear hres hbad
      by_cases he : te = 0
      · subst he
        by_cases h1 : K = 1
        · subst h1
          clear hif herr
          go_wp2_with fail
          refine (HR.out _).mono ?_; rintro e w1 ⟨rfl, b1⟩
          have HB1 := Lib.hid (keepB B b1); have HO1 := Lib.hid (own_later HO.out b1)
          clear B b1 HO
          go_wp2_with fail
          refine (HT.out _).mono ?_; rintro e w2 ⟨rfl, b2⟩
          have HB2 := Lib.hid (keepB HB1.out b2); have HO2 := Lib.hid (own_later HO1.out b2)
          clear HB1 b2 HO1
          go_wp2_with fail
          go_roundw
          case rel =>
            refine ⟨pos + N, t, by go_num, by omega, ?_, ⟨_, _, _, rfl⟩, HO2.out, HB2.out, by omega⟩
            rw [HRes.out, Hres.out trivial, if_pos trivial, after_after, List.append_nil]
          case measure => simp [intOf]; omega
        · have k1 : ((K : Int) != 1) = true := by rw [bne_iff_ne]; omega
          obtain ⟨u, y, hv⟩ := hif h1 rfl
          rw [hv] at HT
          have HV := Lib.hid hv
          clear hif herr hv
          go_wp2_with fail
          refine (HR.out _).mono ?_; rintro e w1 ⟨rfl, b1⟩
          have HB1 := Lib.hid (keepB B b1); have HO1 := Lib.hid (own_later HO.out b1)
          clear B b1 HO
          go_wp2_with fail
          refine (HT.out _).mono ?_; rintro e w2 ⟨rfl, b2⟩
          have HB2 := Lib.hid (keepB HB1.out b2); have HO2 := Lib.hid (own_later HO1.out b2)
          clear HB1 b2 HO1
          go_wp2_with (at_builtin
                       refine wpList_append_own_at _ rfl (.tmp 37) (.tmp 39) 29 rfl w.heap.size 20 i0 _ 1 16 Tryd.underlying29 hi0 hz0 hz1 hz2 rfl (by omega) _ t.length (vals t) rfl
                         (HO2.out.alloc _) ⟨w2.heap.size, 0, none⟩ 1 1 [.iface u y] rfl rfl ?c1 ?c2 (by simp only [maxLen]; omega) (by omega) (by have := HB2.out.size; simp; omega) ?_)
          case c1 =>
            intro j u hj
            match j, hj with
            | 0, hj => simp at hj; subst hj; rw [Addr.add_lit, Nat.zero_add]; exact (Blk.new _ _ _).cell 0
          case c2 => intro u hu; simp at hu; subst hu; rfl
          intro v' w3 hown hgrow _ hblk
          obtain ⟨a', n', c', rfl⟩ : ∃ a' n' c', v' = .slice a' n' c' := by
            rcases hown.2 with ⟨hv, _⟩ | ⟨g, cp, cur, hv, _⟩
            · exact ⟨_, _, _, hv⟩
            · exact ⟨_, _, _, hv⟩
          have HG := Lib.hid hgrow; clear hgrow
          have HN := Lib.hid hown; clear hown
          clear hblk
          go_wp2_with fail
          go_roundw
          case rel =>
            refine ⟨pos + N, t ++ [tv], by go_num, by omega, ?_, ⟨_, _, _, rfl⟩, ?_, (HB2.out.alloc (by have := HB2.out.size; omega) _).grown HG.out (by have := HB2.out.size; simp; omega) (fun g hg => (HO2.out.lt g hg).1), by simp; omega⟩
            · rw [HRes.out, Hres.out trivial, if_neg h1, after_after]
            · have e3 : vals (t ++ [tv]) = vals t ++ [.iface u y] := by simp [vals, HV.out]
              rw [e3, List.length_append]
              exact HN.out
          case measure => simp [intOf]; omega
      · have k0 : ((te : Int) != 0) = true := by rw [bne_iff_ne]; omega
        have HE : Hid (res (bl s) = ⟨[], pos, te⟩) := by
          rw [Hid, HRes.out, Hbad.out he]
          simp [Res.after, he]
        clear hif herr
        go_wp2_with fail
        refine (HR.out _).mono ?_; rintro e w1 ⟨rfl, b1⟩
        have HB1 := Lib.hid (keepB B b1)
        clear B b1 HO
        go_wp2_with fail
        refine (HT.out _).mono ?_; rintro e w2 ⟨rfl, b2⟩
        have HB2 := Lib.hid (keepB HB1.out b2)
        clear HB1 b2
        go_wp2_with fail
        go_ret3
        rw [HE.out]
        exact ⟨none, 0, rfl, ⟨rfl, .inl ⟨rfl, rfl⟩⟩, HB2.out⟩
    · have HE : Hid (res (bl s) = ⟨t, pos, 0⟩) := by
        have e : (bl s).drop pos = [] := List.drop_eq_nil_of_le (by rw [bl_len]; omega)
        rw [Hid, hr, e, res_nil]
        simp [Res.after]
      clear hr
      go_wp2_with fail
      go_ret3
      rw [HE.out]
      have ho := HO.out
      have hvn : vn = t.length := by
        rcases ho.2 with ⟨hv, h0⟩ | ⟨g, cp, cur, hv, _⟩
        · simp at hv; omega
        · simp at hv; omega
      subst hvn
      exact ⟨va, vc, rfl, ho, B⟩
end Go.Proofs.YtboagdmjibdlhaaDoor
