/- Contract of the reference's Scan. -/
import Derived.Test.YtboagdmjibdlhaaDoorScanH
namespace Go.Proofs.YtboagdmjibdlhaaDoor
set_option maxRecDepth 100000
open Go.RowKit

/-- A token, as the reference lays it. -/
def rowT : Atom → List Value
  | .num n => [.int .i64 1, .int .i64 n, .string { data := #[] }]
  | .txt s => [.int .i64 2, .int .i64 0, .string s]
  | .sgn c => [.int .i64 3, .int .i64 c, .string { data := #[] }]
  | _ => [.int .i64 0, .int .i64 0, .string { data := #[] }]
def rowsT (t : List Atom) : List Value := t.flatMap rowT
theorem rowT_len (a : Atom) : (rowT a).length = 3 := by cases a <;> rfl
theorem rowsT_len : ∀ (t : List Atom), (rowsT t).length = t.length * 3
  | [] => rfl
  | a :: t => by
    have := rowsT_len t
    simp only [rowsT] at this
    simp only [rowsT, List.flatMap_cons, List.length_append, rowT_len, this, List.length_cons]
    omega
theorem rowsT_more (t : List Atom) (a : Atom) : rowsT (t ++ [a]) = rowsT t ++ rowT a := by simp [rowsT]

theorem info_tok : (Tryd.prog.info? 74).map (fun i => (i.zero, i.size, i.bytes)) = some (some (.agg #[.int .i64 0, .int .i64 0, .string { data := #[] }]), 3, 32) := by kernel_rfl

/-- What the reference's Scan tells. -/
def ToldT (w w' : World) (e : Ending) (r : Res) : Prop :=
  ∃ a c, e = .returned (.tuple #[.slice a r.toks.length c, .int .i64 (r.pos : Int), .int .i64 (r.err : Int)]) ∧ w'.ownsRow w.heap.size 74 3 (.slice a r.toks.length c) r.toks.length (rowsT r.toks) ∧ Below w.heap.size w w'

/-- What holds at each round's head of the reference's Scan. -/
def RefRel (w : World) (s : ByteArray) (out i : Value) (wr : World) : Prop :=
  ∃ (pos : Nat) (t : List Atom), i = .int .i64 pos ∧ pos ≤ s.size ∧ res (bl s) = Res.after t pos (res ((bl s).drop pos)) ∧ (∃ a n c, out = .slice a n c) ∧ wr.ownsRow w.heap.size 74 3 out t.length (rowsT t) ∧ Below w.heap.size w wr ∧ t.length ≤ pos

/-- What holds at each round's head of a row. -/
def RowRef (w : World) (s : ByteArray) (k pos : Nat) (out : Value) (t : List Atom) (i : Value) (wr : World) : Prop :=
  ∃ j : Nat, i = .int .i64 j ∧ pos ≤ j ∧ j ≤ s.size ∧ pos + ext k ((bl s).drop pos) = j + ext k ((bl s).drop j) ∧ wr.ownsRow w.heap.size 74 3 out t.length (rowsT t) ∧ Below w.heap.size w wr

/-- What holds at each round's head of a row of digits. -/
def DigRef (W : World) (x : ByteArray) (n i : Value) (wr : World) : Prop :=
  ∃ m : Nat, i = .int .i64 m ∧ m ≤ x.size ∧ n = .int .i64 (valN ((bl x).take m) : Int) ∧ W = wr

theorem res_sign {l : List UInt8} (h : l ≠ []) (hk : rowK l = 4) : res l = Res.after [.sgn ((decL l).1 : Int)] (decL l).2 (res (l.drop (decL l).2)) := by
  cases l with
  | nil => exact absurd rfl h
  | cons b r =>
    have hd := cls_4 hk
    have hb : b.toNat < 128 := by
      rcases Nat.lt_or_ge b.toNat 128 with h' | h'
      · exact h'
      · have := decL_high b r h'; omega
    have e := decL_ascii b r hb
    have hn : rowN (b :: r) = (decL (b :: r)).2 := by unfold rowN; rw [hk]; rfl
    have ht : tokK (b :: r) = (.sgn (b.toNat : Int), 0) := by
      unfold tokK
      rw [hk, hn, e]
      rfl
    rw [res_ok h (by rw [ht]), hk, hn, ht, e]
    rfl

theorem row_ext {l : List UInt8} (h : l ≠ []) {k : Nat} (hk : rowK l = k) (h4 : k ≠ 4) : rowN l = ext k l := by
  rw [ext_hit h hk]
  unfold rowN; rw [hk, if_neg h4]

theorem badN_iff (x : ByteArray) : badN (bl x) = true ↔ 9 < x.size ∨ (1 < x.size ∧ atL (bl x) 0 = 48) := by
  simp [badN, bl_len]
theorem extract_txt (s : ByteArray) (pos j N : Nat) (h : j = pos + N) : s.extract pos j = ⟨(((bl s).drop pos).take N).toArray⟩ := by
  rw [← bl_mk (s.extract pos j), bl_extract, h, Nat.add_sub_cancel_left]

theorem news3 (W : World) (a b c : Value) (T : TypeId) : ∀ j u, [a, b, c][j]? = some u → (W.alloc (.cells #[a, b, c] T)).cell? ((⟨W.heap.size, 0, none⟩ : Addr).add j) = some u := by
  intro j u hj
  match j, hj with
  | 0, hj => simp at hj; subst hj; rw [Addr.add_lit, Nat.zero_add]; exact (Blk.new _ _ _).cell 0
  | 1, hj => simp at hj; subst hj; rw [Addr.add_lit, Nat.zero_add]; exact (Blk.new _ _ _).cell 1
  | 2, hj => simp at hj; subst hj; rw [Addr.add_lit, Nat.zero_add]; exact (Blk.new _ _ _).cell 2

set_option maxHeartbeats 8000000 in
theorem refscan_any (s : ByteArray) (w : World) (hs : s.size ≤ 1000000) :
    Calls Tryd.prog 18 #[.string s] w fun e w' => ToldT w w' e (res (bl s)) := by
  obtain ⟨i0, hi0, hz0, hz1, hz2⟩ := info_parts info_tok
  go_enter Tryd.func18, Tryd.ntmps18
  go_wp2_with fail
  go_loopw [5, 6] (fun out i wr => RefRel w s out i wr) (fun _ i _ => s.size - (intOf i).toNat)
  case atStart => exact ⟨0, [], rfl, Nat.zero_le _, by rw [List.drop_zero, after_zero _ (res_errs _).1], ⟨_, _, _, rfl⟩, ⟨rfl, .inl ⟨rfl, rfl⟩⟩, Below.refl _ _, Nat.le_refl _⟩
  case round =>
    obtain ⟨wo, rfl⟩ : ∃ wo : World, wo = wr := ⟨_, rfl⟩
    obtain ⟨pos, t, rfl, hp, hr, ⟨va, vn, vc, rfl⟩, hown, B, htl⟩ := hrel
    have HO := Lib.hid hown; clear hown
    by_cases hlt : pos < s.size
    · have hne := drop_ne hlt
      have hd := dec_le ((bl s).drop pos)
      obtain ⟨hl, hw⟩ := next_len hlt
      have HR := Lib.hid (fun w => refrune_any s pos w hlt hs)
      have HC := Lib.hid (refclass_any _ hd)
      have hK : rowK ((bl s).drop pos) ≤ 4 := cls_le _
      have hkk : rowK ((bl s).drop pos) = cls (decL ((bl s).drop pos)).1 := rfl
      have hN1 := rowN_pos ((bl s).drop pos)
      have hN2 := rowN_le hne
      rw [List.length_drop, bl_len] at hN2
      rw [← hkk] at HC
      have hsign := fun h => res_sign hne h
      have hblank := fun h => res_blank hne h
      have hbad := fun h => res_bad hne h
      have hok := fun h => res_ok hne h
      rw [List.drop_drop] at hsign hblank hok
      have hext := fun {k : Nat} (h : rowK ((bl s).drop pos) = k) (h4 : k ≠ 4) => row_ext hne h h4
      have hdig := fun h => digs_row hne h
      have HRes := Lib.hid hr; clear hr
      have Hsign := Lib.hid hsign; have Hblank := Lib.hid hblank; have Hbad := Lib.hid hbad; have Hok := Lib.hid hok; have Hdig := Lib.hid hdig
      have Hext : Hid (∀ {k : Nat}, rowK ((bl s).drop pos) = k → k ≠ 4 → rowN ((bl s).drop pos) = ext k ((bl s).drop pos)) := @hext
      clear hsign hblank hbad hok hdig hext hkk
      unfold tokK at Hbad Hok
      generalize decL ((bl s).drop pos) = d at *
      generalize hKK : rowK ((bl s).drop pos) = K at *
      generalize hNN : rowN ((bl s).drop pos) = N at *
      clear hKK hNN
      have hcase : K = 0 ∨ K = 1 ∨ K = 4 ∨ K = 3 ∨ K = 2 := by omega
      rcases hcase with rfl | rfl | rfl | rfl | rfl
      · have HE : Hid (res (bl s) = ⟨[], pos, 40⟩) := by
          rw [Hid, HRes.out, Hbad.out (by simp [tokF])]
          simp [Res.after, tokF]
        go_wp2_with fail
        refine (HR.out _).mono ?_; rintro e w1 ⟨rfl, b1⟩
        have HB1 := Lib.hid (keepB B b1); have HO1 := Lib.hid (own_later HO.out b1)
        clear B b1 HO
        go_wp2_with fail
        refine (HC.out _).mono ?_; rintro e w2 ⟨rfl, rfl⟩
        go_wp2_with fail
        go_ret3
        rw [HE.out]
        exact ⟨none, 0, rfl, ⟨rfl, .inl ⟨rfl, rfl⟩⟩, HB1.out⟩
      · skip
        go_wp2_with fail
        refine (HR.out _).mono ?_; rintro e w1 ⟨rfl, b1⟩
        have HB1 := Lib.hid (keepB B b1); have HO1 := Lib.hid (own_later HO.out b1)
        clear B b1 HO
        go_wp2_with fail
        refine (HC.out _).mono ?_; rintro e w2 ⟨rfl, rfl⟩
        go_wp2_with fail
        go_roundw
        case rel => exact ⟨pos + d.2, t, by go_num, hl, by rw [HRes.out, Hblank.out trivial, after_after, List.append_nil], ⟨_, _, _, rfl⟩, HO1.out, HB1.out, by omega⟩
        case measure => simp [intOf]; omega
      · skip
        go_wp2_with fail
        refine (HR.out _).mono ?_; rintro e w1 ⟨rfl, b1⟩
        have HB1 := Lib.hid (keepB B b1); have HO1 := Lib.hid (own_later HO.out b1)
        clear B b1 HO
        go_wp2_with fail
        refine (HC.out _).mono ?_; rintro e w2 ⟨rfl, rfl⟩
        go_wp2_with (at_builtin; refine wpList_append_own_at _ rfl (.tmp 33) (.tmp 36) 35 rfl w.heap.size 74 i0 _ 3 32 Tryd.underlying35 hi0 hz0 hz1 hz2 rfl (by omega) _ t.length (rowsT t) rfl (HO1.out.alloc _) ⟨w1.heap.size, 0, none⟩ 1 1 [.int .i64 3, .int .i64 (d.1 : Int), .string { data := #[] }] rfl rfl (news3 _ _ _ _ _) (by intro u hu; simp at hu; rcases hu with rfl | rfl | rfl <;> rfl) (by simp only [maxLen]; omega) (by omega) (by have := HB1.out.size; simp; omega) ?_)
        intro v' w3 hown hgrow _ hblk
        obtain ⟨a', n', c', rfl⟩ : ∃ a' n' c', v' = .slice a' n' c' := by
          rcases hown.2 with ⟨hv, _⟩ | ⟨g, cp, cur, hv, _⟩
          · exact ⟨_, _, _, hv⟩
          · exact ⟨_, _, _, hv⟩
        have HG := Lib.hid hgrow; clear hgrow
        have HN := Lib.hid hown; clear hown
        clear hblk
        go_wp2_with fail
        go_roundw
        case rel =>
          refine ⟨pos + d.2, t ++ [.sgn (d.1 : Int)], by go_num, by omega, ?_, ⟨_, _, _, rfl⟩, ?_, (HB1.out.alloc (by have := HB1.out.size; omega) _).grown HG.out (by have := HB1.out.size; simp; omega) (fun g hg => (HO1.out.lt g hg).1), by simp; omega⟩
          · rw [HRes.out, Hsign.out trivial, after_after]
          · rw [rowsT_more, List.length_append]; exact HN.out
        case measure => simp [intOf]; omega
      · skip
        go_wp2_with fail
        refine (HR.out _).mono ?_; rintro e w1 ⟨rfl, b1⟩
        have HB1 := Lib.hid (keepB B b1); have HO1 := Lib.hid (own_later HO.out b1)
        clear B b1 HO
        go_wp2_with fail
        refine (HC.out _).mono ?_; rintro e w2 ⟨rfl, rfl⟩
        have HNe := Lib.hid (Hext.out rfl (by decide))
        clear HC HR Hext
        go_wp2_with fail
        go_loopw [6] (fun i wr => RowRef w s 3 pos (.slice va vn vc) t i wr) (fun i _ => s.size - (intOf i).toNat)
        case atStart => exact ⟨pos, rfl, Nat.le_refl _, hp, rfl, HO1.out, HB1.out⟩
        case round =>
          obtain ⟨j, rfl, hj1, hj2, hje, hown, B⟩ := hrel
          have HO2 := Lib.hid hown; have HB2 := Lib.hid B; clear hown B HO1 HB1
          have ej : ((3 : Nat) : Int) = 3 := rfl
          by_cases hjl : j < s.size
          · have hd2 := dec_le ((bl s).drop j)
            obtain ⟨hl2, hw2⟩ := next_len hjl
            have HR2 := Lib.hid (fun w => refrune_any s j w hjl hs)
            have HC2 := Lib.hid (refclass_any _ hd2)
            by_cases hc : cls (decL ((bl s).drop j)).1 = 3
            · rw [ext_hit (drop_ne hjl) hc, List.drop_drop] at hje
              rw [hc] at HC2
              have HJ := Lib.hid hje
              clear hc hd2 hje ej
              generalize decL ((bl s).drop j) = d2 at *
              go_wp2_with fail
              refine (HR2.out _).mono ?_; rintro e w4 ⟨rfl, b4⟩
              have HB4 := Lib.hid (keepB HB2.out b4); have HO4 := Lib.hid (own_later HO2.out b4)
              clear HB2 HO2 b4
              go_wp2_with fail
              refine (HC2.out _).mono ?_; rintro e w5 ⟨rfl, rfl⟩
              go_wp2_with fail
              go_roundw
              case rel => exact ⟨j + d2.2, by go_num, by omega, hl2, by rw [HJ.out, Nat.add_assoc], HO4.out, HB4.out⟩
              case measure => simp [intOf]; omega
            · rw [ext_miss hc, Nat.add_zero] at hje
              have ek : ((cls (decL ((bl s).drop j)).1 : Int) != 3) = true := by rw [bne_iff_ne]; omega
              have HJ : Hid (j = pos + N) := by rw [Hid, HNe.out]; exact hje.symm
              clear hc hd2 hje ej
              generalize decL ((bl s).drop j) = d2 at *
              go_wp2_with fail
              refine (HR2.out _).mono ?_; rintro e w4 ⟨rfl, b4⟩
              have HB4 := Lib.hid (keepB HB2.out b4); have HO4 := Lib.hid (own_later HO2.out b4)
              clear HB2 HO2 b4
              go_wp2_with fail
              refine (HC2.out _).mono ?_; rintro e w5 ⟨rfl, rfl⟩
              obtain ⟨x, hsx⟩ : ∃ x, s.extract pos j = x := ⟨_, rfl⟩
              have HX : Hid (x = ⟨(((bl s).drop pos).take N).toArray⟩) := by rw [Hid, ← hsx]; exact extract_txt s pos j N HJ.out
              have hz : Hid (x.size = N) := by rw [Hid, ← bl_len, HX.out, bl_of, List.length_take, List.length_drop, bl_len]; omega
              have hjN : Hid (j = pos + N) := HJ
              have hjp : pos < j := by have := HJ.out; omega
              go_wp2_with (at_builtin; refine wpList_append_own_at _ rfl (.tmp 71) (.tmp 74) 35 rfl w.heap.size 74 i0 _ 3 32 Tryd.underlying35 hi0 hz0 hz1 hz2 rfl (by omega) _ t.length (rowsT t) rfl (HO4.out.alloc _) ⟨w4.heap.size, 0, none⟩ 1 1 [.int .i64 2, .int .i64 0, .string x] rfl rfl (news3 _ _ _ _ _) (by intro u hu; simp at hu; rcases hu with rfl | rfl | rfl <;> rfl) (by simp only [maxLen]; omega) (by omega) (by have := HB4.out.size; simp; omega) ?_)
              intro v' w3 hown hgrow _ hblk
              obtain ⟨a', n', c', rfl⟩ : ∃ a' n' c', v' = .slice a' n' c' := by
                rcases hown.2 with ⟨hv, _⟩ | ⟨g, cp, cur, hv, _⟩
                · exact ⟨_, _, _, hv⟩
                · exact ⟨_, _, _, hv⟩
              have HG := Lib.hid hgrow; clear hgrow
              have HN := Lib.hid hown; clear hown
              clear hblk
              go_wp2_with fail
              go_roundw
              case rel =>
                refine ⟨j, t ++ [.txt x], by go_num, by omega, ?_, ⟨_, _, _, rfl⟩, ?_, (HB4.out.alloc (by have := HB4.out.size; omega) _).grown HG.out (by have := HB4.out.size; simp; omega) (fun g hg => (HO4.out.lt g hg).1), by simp; omega⟩
                · rw [HRes.out, Hok.out (by simp [tokF]), after_after, hjN.out, if_neg (by decide), HX.out]; rfl
                · rw [rowsT_more, List.length_append]; exact HN.out
              case measure => simp [intOf]; omega
          · have e : (bl s).drop j = [] := List.drop_eq_nil_of_le (by rw [bl_len]; omega)
            rw [e, ext_nil, Nat.add_zero] at hje
            have HJ : Hid (j = pos + N) := by rw [Hid, HNe.out]; exact hje.symm
            clear e hje ej
            obtain ⟨wz, rfl⟩ : ∃ wz : World, wz = wr := ⟨_, rfl⟩
            obtain ⟨x, hsx⟩ : ∃ x, s.extract pos j = x := ⟨_, rfl⟩
            have HX : Hid (x = ⟨(((bl s).drop pos).take N).toArray⟩) := by rw [Hid, ← hsx]; exact extract_txt s pos j N HJ.out
            have hz : Hid (x.size = N) := by rw [Hid, ← bl_len, HX.out, bl_of, List.length_take, List.length_drop, bl_len]; omega
            have hjN : Hid (j = pos + N) := HJ
            have hjp : pos < j := by have := HJ.out; omega
            go_wp2_with (at_builtin; refine wpList_append_own_at _ rfl (.tmp 71) (.tmp 74) 35 rfl w.heap.size 74 i0 _ 3 32 Tryd.underlying35 hi0 hz0 hz1 hz2 rfl (by omega) _ t.length (rowsT t) rfl (HO2.out.alloc _) ⟨wz.heap.size, 0, none⟩ 1 1 [.int .i64 2, .int .i64 0, .string x] rfl rfl (news3 _ _ _ _ _) (by intro u hu; simp at hu; rcases hu with rfl | rfl | rfl <;> rfl) (by simp only [maxLen]; omega) (by omega) (by have := HB2.out.size; simp; omega) ?_)
            intro v' w3 hown hgrow _ hblk
            obtain ⟨a', n', c', rfl⟩ : ∃ a' n' c', v' = .slice a' n' c' := by
              rcases hown.2 with ⟨hv, _⟩ | ⟨g, cp, cur, hv, _⟩
              · exact ⟨_, _, _, hv⟩
              · exact ⟨_, _, _, hv⟩
            have HG := Lib.hid hgrow; clear hgrow
            have HN := Lib.hid hown; clear hown
            clear hblk
            go_wp2_with fail
            go_roundw
            case rel =>
              refine ⟨j, t ++ [.txt x], by go_num, by omega, ?_, ⟨_, _, _, rfl⟩, ?_, (HB2.out.alloc (by have := HB2.out.size; omega) _).grown HG.out (by have := HB2.out.size; simp; omega) (fun g hg => (HO2.out.lt g hg).1), by simp; omega⟩
              · rw [HRes.out, Hok.out (by simp [tokF]), after_after, hjN.out, if_neg (by decide), HX.out]; rfl
              · rw [rowsT_more, List.length_append]; exact HN.out
            case measure => simp [intOf]; omega
      · skip
        go_wp2_with fail
        refine (HR.out _).mono ?_; rintro e w1 ⟨rfl, b1⟩
        have HB1 := Lib.hid (keepB B b1); have HO1 := Lib.hid (own_later HO.out b1)
        clear B b1 HO
        go_wp2_with fail
        refine (HC.out _).mono ?_; rintro e w2 ⟨rfl, rfl⟩
        have HNe := Lib.hid (Hext.out rfl (by decide))
        clear HC HR Hext
        go_wp2_with fail
        go_loopw [6] (fun i wr => RowRef w s 2 pos (.slice va vn vc) t i wr) (fun i _ => s.size - (intOf i).toNat)
        case atStart => exact ⟨pos, rfl, Nat.le_refl _, hp, rfl, HO1.out, HB1.out⟩
        case round =>
          obtain ⟨j, rfl, hj1, hj2, hje, hown, B⟩ := hrel
          have HO2 := Lib.hid hown; have HB2 := Lib.hid B; clear hown B HO1 HB1
          have ej : ((2 : Nat) : Int) = 2 := rfl
          by_cases hjl : j < s.size
          · have hd2 := dec_le ((bl s).drop j)
            obtain ⟨hl2, hw2⟩ := next_len hjl
            have HR2 := Lib.hid (fun w => refrune_any s j w hjl hs)
            have HC2 := Lib.hid (refclass_any _ hd2)
            by_cases hc : cls (decL ((bl s).drop j)).1 = 2
            · rw [ext_hit (drop_ne hjl) hc, List.drop_drop] at hje
              rw [hc] at HC2
              have HJ := Lib.hid hje
              clear hc hd2 hje ej
              generalize decL ((bl s).drop j) = d2 at *
              go_wp2_with fail
              refine (HR2.out _).mono ?_; rintro e w4 ⟨rfl, b4⟩
              have HB4 := Lib.hid (keepB HB2.out b4); have HO4 := Lib.hid (own_later HO2.out b4)
              clear HB2 HO2 b4
              go_wp2_with fail
              refine (HC2.out _).mono ?_; rintro e w5 ⟨rfl, rfl⟩
              go_wp2_with fail
              go_roundw
              case rel => exact ⟨j + d2.2, by go_num, by omega, hl2, by rw [HJ.out, Nat.add_assoc], HO4.out, HB4.out⟩
              case measure => simp [intOf]; omega
            · rw [ext_miss hc, Nat.add_zero] at hje
              have ek : ((cls (decL ((bl s).drop j)).1 : Int) != 2) = true := by rw [bne_iff_ne]; omega
              have HJ : Hid (j = pos + N) := by rw [Hid, HNe.out]; exact hje.symm
              clear hc hd2 hje ej
              generalize decL ((bl s).drop j) = d2 at *
              go_wp2_with fail
              refine (HR2.out _).mono ?_; rintro e w4 ⟨rfl, b4⟩
              have HB4 := Lib.hid (keepB HB2.out b4); have HO4 := Lib.hid (own_later HO2.out b4)
              clear HB2 HO2 b4
              go_wp2_with fail
              refine (HC2.out _).mono ?_; rintro e w5 ⟨rfl, rfl⟩
              obtain ⟨x, hsx⟩ : ∃ x, s.extract pos j = x := ⟨_, rfl⟩
              have HX : Hid (x = ⟨(((bl s).drop pos).take N).toArray⟩) := by rw [Hid, ← hsx]; exact extract_txt s pos j N HJ.out
              have hz : Hid (x.size = N) := by rw [Hid, ← bl_len, HX.out, bl_of, List.length_take, List.length_drop, bl_len]; omega
              have hjN : Hid (j = pos + N) := HJ
              have hjp : pos < j := by have := HJ.out; omega
              have HDg : Hid (Digs (bl x)) := by rw [HX.out, bl_of]; exact Hdig.out trivial
              have HBd : Hid (bl x = ((bl s).drop pos).take N) := by rw [Hid, HX.out, bl_of]
              have hxx := fun (m : Nat) (h : m < x.size) => index_at x m h (m : Int) rfl
              have hx0 := index_at x 0 (by have := hz.out; omega) 0 rfl
              by_cases h9 : 9 < x.size
              · have HE : Hid (res (bl s) = ⟨[], pos, 41⟩) := by
                  have hb : badN (((bl s).drop pos).take N) = true := by rw [← HBd.out]; exact (badN_iff _).2 (.inl h9)
                  rw [Hid, HRes.out, Hbad.out (by simp [tokF, hb])]
                  simp [Res.after, tokF, hb]
                clear hxx hx0
                go_wp2_with fail
                go_ret3
                rw [HE.out]
                exact ⟨none, 0, rfl, ⟨rfl, .inl ⟨rfl, rfl⟩⟩, HB4.out⟩
              · have i9 : decide ((9 : Int) < (x.size : Int)) = false := decide_eq_false (by omega)
                by_cases hb : 1 < x.size ∧ atL (bl x) 0 = 48
                · have HE : Hid (res (bl s) = ⟨[], pos, 41⟩) := by
                    have hb : badN (((bl s).drop pos).take N) = true := by rw [← HBd.out]; exact (badN_iff _).2 (.inr hb)
                    rw [Hid, HRes.out, Hbad.out (by simp [tokF, hb])]
                    simp [Res.after, tokF, hb]
                  obtain ⟨hb1, hb2⟩ := hb
                  rw [hb2] at hx0
                  clear hxx hb2
                  go_wp2_with fail
                  go_ret3
                  rw [HE.out]
                  exact ⟨none, 0, rfl, ⟨rfl, .inl ⟨rfl, rfl⟩⟩, HB4.out⟩
                · have HT : Hid (tokF 2 (((bl s).drop pos).take N) = (.num (valN (bl x) : Int), 0)) := by
                    have hb : ¬ badN (((bl s).drop pos).take N) = true := by rw [← HBd.out, badN_iff]; omega
                    have : tokF 2 (((bl s).drop pos).take N) = if badN (((bl s).drop pos).take N) = true then (.nil, 41) else (.num (valN (((bl s).drop pos).take N) : Int), 0) := rfl
                    rw [Hid, this, if_neg hb, HBd.out]
                  have fin : ∀ {P : Prop}, (∀ (b : Bool), decide ((1 : Int) < (x.size : Int)) = b → (b = true → ((atL (bl x) 0 : Int) == 48) = false) → P) → P := by
                    intro P k
                    refine k _ rfl fun hb' => ?_
                    have hb' := of_decide_eq_true hb'
                    exact beq_eq_false_iff_ne.2 (by omega)
                  have hx9 : x.size ≤ 9 := by omega
                  refine fin fun b hb1 hb2 => ?_
                  clear fin hb h9
                  cases b
                  · have hb1' : decide ((1 : Int) < (x.size : Int)) = false := hb1
                    clear hb1 hb2
                    go_wp2_with fail
                    go_loopw [14, 15] (fun n i wr => DigRef w4 x n i wr) (fun _ i _ => x.size - (intOf i).toNat)
                    case atStart => exact ⟨0, rfl, Nat.zero_le _, rfl, rfl⟩
                    case round =>
                      obtain ⟨m, rfl, hm, rfl, hwr⟩ := hrel
                      subst hwr
                      by_cases hml : m < x.size
                      · have hxm := hxx m hml
                        have hmem : ∃ c, (bl x)[m]? = some c := ⟨_, List.getElem?_eq_getElem (by rw [bl_len]; exact hml)⟩
                        obtain ⟨c, hc⟩ := hmem
                        have hca : atL (bl x) m = c.toNat := by simp [atL, List.getD_eq_getElem?_getD, hc]
                        obtain ⟨c1, c2⟩ := HDg.out c (List.mem_of_getElem? hc)
                        have hv : Hid (valN ((bl x).take (m + 1)) = 10 * valN ((bl x).take m) + (c.toNat - 48)) := by
                          rw [Hid, List.take_add_one, hc, Option.toList_some, valN_more]
                        have hsm : valN ((bl x).take m) < 100000000 := valN_small8 (fun b hb => HDg.out b (List.mem_of_mem_take hb)) (by rw [List.length_take]; omega)
                        rw [hca] at hxm
                        have u0 : IntKind.u8.wrap ((c.toNat : Int) - 48) = (c.toNat : Int) - 48 := by rw [IntKind.wrap_u8]; omega
                        clear hc hca hxx hx0
                        generalize valN ((bl x).take m) = vm at *
                        generalize c.toNat = cn at *
                        go_wp2_with fail
                        go_roundw
                        case rel => exact ⟨m + 1, by go_num, hml, by rw [hv.out]; congr 1; omega, rfl⟩
                        case measure => simp [intOf]; omega
                      · have e : Hid ((bl x).take m = bl x) := List.take_of_length_le (by rw [bl_len]; omega)
                        have hcv : Hid (valN ((bl x).take m) = valN (bl x)) := by rw [Hid, e.out]
                        clear hxx hx0
                        generalize valN ((bl x).take m) = vm at *
                        go_wp2_with (at_builtin; refine wpList_append_own_at _ rfl (.tmp 104) (.tmp 107) 35 rfl w.heap.size 74 i0 _ 3 32 Tryd.underlying35 hi0 hz0 hz1 hz2 rfl (by omega) _ t.length (rowsT t) rfl (HO4.out.alloc _) ⟨w4.heap.size, 0, none⟩ 1 1 [.int .i64 1, .int .i64 (vm : Int), .string { data := #[] }] rfl rfl (news3 _ _ _ _ _) (by intro u hu; simp at hu; rcases hu with rfl | rfl | rfl <;> rfl) (by simp only [maxLen]; omega) (by omega) (by have := HB4.out.size; simp; omega) ?_)
                        intro v' w3 hown hgrow _ hblk
                        obtain ⟨a', n', c', rfl⟩ : ∃ a' n' c', v' = .slice a' n' c' := by
                          rcases hown.2 with ⟨hv, _⟩ | ⟨g, cp, cur, hv, _⟩
                          · exact ⟨_, _, _, hv⟩
                          · exact ⟨_, _, _, hv⟩
                        have HG := Lib.hid hgrow; clear hgrow
                        have HN := Lib.hid hown; clear hown
                        clear hblk
                        go_wp2_with fail
                        go_roundw
                        case rel =>
                          refine ⟨j, t ++ [.num (vm : Int)], by go_num, by omega, ?_, ⟨_, _, _, rfl⟩, ?_, (HB4.out.alloc (by have := HB4.out.size; omega) _).grown HG.out (by have := HB4.out.size; simp; omega) (fun g hg => (HO4.out.lt g hg).1), by simp; omega⟩
                          · rw [HRes.out, Hok.out (by rw [HT.out]), after_after, hjN.out, HT.out, hcv.out]; rfl
                          · rw [rowsT_more, List.length_append]; exact HN.out
                        case measure => simp [intOf]; omega
                  · have hb1' : (1 : Int) < (x.size : Int) := of_decide_eq_true hb1
                    have hb2' := hb2 rfl
                    clear hb1 hb2
                    go_wp2_with fail
                    go_loopw [14, 15] (fun n i wr => DigRef w4 x n i wr) (fun _ i _ => x.size - (intOf i).toNat)
                    case atStart => exact ⟨0, rfl, Nat.zero_le _, rfl, rfl⟩
                    case round =>
                      obtain ⟨m, rfl, hm, rfl, hwr⟩ := hrel
                      subst hwr
                      by_cases hml : m < x.size
                      · have hxm := hxx m hml
                        have hmem : ∃ c, (bl x)[m]? = some c := ⟨_, List.getElem?_eq_getElem (by rw [bl_len]; exact hml)⟩
                        obtain ⟨c, hc⟩ := hmem
                        have hca : atL (bl x) m = c.toNat := by simp [atL, List.getD_eq_getElem?_getD, hc]
                        obtain ⟨c1, c2⟩ := HDg.out c (List.mem_of_getElem? hc)
                        have hv : Hid (valN ((bl x).take (m + 1)) = 10 * valN ((bl x).take m) + (c.toNat - 48)) := by
                          rw [Hid, List.take_add_one, hc, Option.toList_some, valN_more]
                        have hsm : valN ((bl x).take m) < 100000000 := valN_small8 (fun b hb => HDg.out b (List.mem_of_mem_take hb)) (by rw [List.length_take]; omega)
                        rw [hca] at hxm
                        have u0 : IntKind.u8.wrap ((c.toNat : Int) - 48) = (c.toNat : Int) - 48 := by rw [IntKind.wrap_u8]; omega
                        clear hc hca hxx hx0
                        generalize valN ((bl x).take m) = vm at *
                        generalize c.toNat = cn at *
                        go_wp2_with fail
                        go_roundw
                        case rel => exact ⟨m + 1, by go_num, hml, by rw [hv.out]; congr 1; omega, rfl⟩
                        case measure => simp [intOf]; omega
                      · have e : Hid ((bl x).take m = bl x) := List.take_of_length_le (by rw [bl_len]; omega)
                        have hcv : Hid (valN ((bl x).take m) = valN (bl x)) := by rw [Hid, e.out]
                        clear hxx hx0
                        generalize valN ((bl x).take m) = vm at *
                        go_wp2_with (at_builtin; refine wpList_append_own_at _ rfl (.tmp 104) (.tmp 107) 35 rfl w.heap.size 74 i0 _ 3 32 Tryd.underlying35 hi0 hz0 hz1 hz2 rfl (by omega) _ t.length (rowsT t) rfl (HO4.out.alloc _) ⟨w4.heap.size, 0, none⟩ 1 1 [.int .i64 1, .int .i64 (vm : Int), .string { data := #[] }] rfl rfl (news3 _ _ _ _ _) (by intro u hu; simp at hu; rcases hu with rfl | rfl | rfl <;> rfl) (by simp only [maxLen]; omega) (by omega) (by have := HB4.out.size; simp; omega) ?_)
                        intro v' w3 hown hgrow _ hblk
                        obtain ⟨a', n', c', rfl⟩ : ∃ a' n' c', v' = .slice a' n' c' := by
                          rcases hown.2 with ⟨hv, _⟩ | ⟨g, cp, cur, hv, _⟩
                          · exact ⟨_, _, _, hv⟩
                          · exact ⟨_, _, _, hv⟩
                        have HG := Lib.hid hgrow; clear hgrow
                        have HN := Lib.hid hown; clear hown
                        clear hblk
                        go_wp2_with fail
                        go_roundw
                        case rel =>
                          refine ⟨j, t ++ [.num (vm : Int)], by go_num, by omega, ?_, ⟨_, _, _, rfl⟩, ?_, (HB4.out.alloc (by have := HB4.out.size; omega) _).grown HG.out (by have := HB4.out.size; simp; omega) (fun g hg => (HO4.out.lt g hg).1), by simp; omega⟩
                          · rw [HRes.out, Hok.out (by rw [HT.out]), after_after, hjN.out, HT.out, hcv.out]; rfl
                          · rw [rowsT_more, List.length_append]; exact HN.out
                        case measure => simp [intOf]; omega
          · have e : (bl s).drop j = [] := List.drop_eq_nil_of_le (by rw [bl_len]; omega)
            rw [e, ext_nil, Nat.add_zero] at hje
            have HJ : Hid (j = pos + N) := by rw [Hid, HNe.out]; exact hje.symm
            clear e hje ej
            obtain ⟨wz, rfl⟩ : ∃ wz : World, wz = wr := ⟨_, rfl⟩
            obtain ⟨x, hsx⟩ : ∃ x, s.extract pos j = x := ⟨_, rfl⟩
            have HX : Hid (x = ⟨(((bl s).drop pos).take N).toArray⟩) := by rw [Hid, ← hsx]; exact extract_txt s pos j N HJ.out
            have hz : Hid (x.size = N) := by rw [Hid, ← bl_len, HX.out, bl_of, List.length_take, List.length_drop, bl_len]; omega
            have hjN : Hid (j = pos + N) := HJ
            have hjp : pos < j := by have := HJ.out; omega
            have HDg : Hid (Digs (bl x)) := by rw [HX.out, bl_of]; exact Hdig.out trivial
            have HBd : Hid (bl x = ((bl s).drop pos).take N) := by rw [Hid, HX.out, bl_of]
            have hxx := fun (m : Nat) (h : m < x.size) => index_at x m h (m : Int) rfl
            have hx0 := index_at x 0 (by have := hz.out; omega) 0 rfl
            by_cases h9 : 9 < x.size
            · have HE : Hid (res (bl s) = ⟨[], pos, 41⟩) := by
                have hb : badN (((bl s).drop pos).take N) = true := by rw [← HBd.out]; exact (badN_iff _).2 (.inl h9)
                rw [Hid, HRes.out, Hbad.out (by simp [tokF, hb])]
                simp [Res.after, tokF, hb]
              clear hxx hx0
              go_wp2_with fail
              go_ret3
              rw [HE.out]
              exact ⟨none, 0, rfl, ⟨rfl, .inl ⟨rfl, rfl⟩⟩, HB2.out⟩
            · have i9 : decide ((9 : Int) < (x.size : Int)) = false := decide_eq_false (by omega)
              by_cases hb : 1 < x.size ∧ atL (bl x) 0 = 48
              · have HE : Hid (res (bl s) = ⟨[], pos, 41⟩) := by
                  have hb : badN (((bl s).drop pos).take N) = true := by rw [← HBd.out]; exact (badN_iff _).2 (.inr hb)
                  rw [Hid, HRes.out, Hbad.out (by simp [tokF, hb])]
                  simp [Res.after, tokF, hb]
                obtain ⟨hb1, hb2⟩ := hb
                rw [hb2] at hx0
                clear hxx hb2
                go_wp2_with fail
                go_ret3
                rw [HE.out]
                exact ⟨none, 0, rfl, ⟨rfl, .inl ⟨rfl, rfl⟩⟩, HB2.out⟩
              · have HT : Hid (tokF 2 (((bl s).drop pos).take N) = (.num (valN (bl x) : Int), 0)) := by
                  have hb : ¬ badN (((bl s).drop pos).take N) = true := by rw [← HBd.out, badN_iff]; omega
                  have : tokF 2 (((bl s).drop pos).take N) = if badN (((bl s).drop pos).take N) = true then (.nil, 41) else (.num (valN (((bl s).drop pos).take N) : Int), 0) := rfl
                  rw [Hid, this, if_neg hb, HBd.out]
                have fin : ∀ {P : Prop}, (∀ (b : Bool), decide ((1 : Int) < (x.size : Int)) = b → (b = true → ((atL (bl x) 0 : Int) == 48) = false) → P) → P := by
                  intro P k
                  refine k _ rfl fun hb' => ?_
                  have hb' := of_decide_eq_true hb'
                  exact beq_eq_false_iff_ne.2 (by omega)
                have hx9 : x.size ≤ 9 := by omega
                refine fin fun b hb1 hb2 => ?_
                clear fin hb h9
                cases b
                · have hb1' : decide ((1 : Int) < (x.size : Int)) = false := hb1
                  clear hb1 hb2
                  go_wp2_with fail
                  go_loopw [14, 15] (fun n i wr => DigRef wz x n i wr) (fun _ i _ => x.size - (intOf i).toNat)
                  case atStart => exact ⟨0, rfl, Nat.zero_le _, rfl, rfl⟩
                  case round =>
                    obtain ⟨m, rfl, hm, rfl, hwr⟩ := hrel
                    subst hwr
                    by_cases hml : m < x.size
                    · have hxm := hxx m hml
                      have hmem : ∃ c, (bl x)[m]? = some c := ⟨_, List.getElem?_eq_getElem (by rw [bl_len]; exact hml)⟩
                      obtain ⟨c, hc⟩ := hmem
                      have hca : atL (bl x) m = c.toNat := by simp [atL, List.getD_eq_getElem?_getD, hc]
                      obtain ⟨c1, c2⟩ := HDg.out c (List.mem_of_getElem? hc)
                      have hv : Hid (valN ((bl x).take (m + 1)) = 10 * valN ((bl x).take m) + (c.toNat - 48)) := by
                        rw [Hid, List.take_add_one, hc, Option.toList_some, valN_more]
                      have hsm : valN ((bl x).take m) < 100000000 := valN_small8 (fun b hb => HDg.out b (List.mem_of_mem_take hb)) (by rw [List.length_take]; omega)
                      rw [hca] at hxm
                      have u0 : IntKind.u8.wrap ((c.toNat : Int) - 48) = (c.toNat : Int) - 48 := by rw [IntKind.wrap_u8]; omega
                      clear hc hca hxx hx0
                      generalize valN ((bl x).take m) = vm at *
                      generalize c.toNat = cn at *
                      go_wp2_with fail
                      go_roundw
                      case rel => exact ⟨m + 1, by go_num, hml, by rw [hv.out]; congr 1; omega, rfl⟩
                      case measure => simp [intOf]; omega
                    · have e : Hid ((bl x).take m = bl x) := List.take_of_length_le (by rw [bl_len]; omega)
                      have hcv : Hid (valN ((bl x).take m) = valN (bl x)) := by rw [Hid, e.out]
                      clear hxx hx0
                      generalize valN ((bl x).take m) = vm at *
                      go_wp2_with (at_builtin; refine wpList_append_own_at _ rfl (.tmp 104) (.tmp 107) 35 rfl w.heap.size 74 i0 _ 3 32 Tryd.underlying35 hi0 hz0 hz1 hz2 rfl (by omega) _ t.length (rowsT t) rfl (HO2.out.alloc _) ⟨wz.heap.size, 0, none⟩ 1 1 [.int .i64 1, .int .i64 (vm : Int), .string { data := #[] }] rfl rfl (news3 _ _ _ _ _) (by intro u hu; simp at hu; rcases hu with rfl | rfl | rfl <;> rfl) (by simp only [maxLen]; omega) (by omega) (by have := HB2.out.size; simp; omega) ?_)
                      intro v' w3 hown hgrow _ hblk
                      obtain ⟨a', n', c', rfl⟩ : ∃ a' n' c', v' = .slice a' n' c' := by
                        rcases hown.2 with ⟨hv, _⟩ | ⟨g, cp, cur, hv, _⟩
                        · exact ⟨_, _, _, hv⟩
                        · exact ⟨_, _, _, hv⟩
                      have HG := Lib.hid hgrow; clear hgrow
                      have HN := Lib.hid hown; clear hown
                      clear hblk
                      go_wp2_with fail
                      go_roundw
                      case rel =>
                        refine ⟨j, t ++ [.num (vm : Int)], by go_num, by omega, ?_, ⟨_, _, _, rfl⟩, ?_, (HB2.out.alloc (by have := HB2.out.size; omega) _).grown HG.out (by have := HB2.out.size; simp; omega) (fun g hg => (HO2.out.lt g hg).1), by simp; omega⟩
                        · rw [HRes.out, Hok.out (by rw [HT.out]), after_after, hjN.out, HT.out, hcv.out]; rfl
                        · rw [rowsT_more, List.length_append]; exact HN.out
                      case measure => simp [intOf]; omega
                · have hb1' : (1 : Int) < (x.size : Int) := of_decide_eq_true hb1
                  have hb2' := hb2 rfl
                  clear hb1 hb2
                  go_wp2_with fail
                  go_loopw [14, 15] (fun n i wr => DigRef wz x n i wr) (fun _ i _ => x.size - (intOf i).toNat)
                  case atStart => exact ⟨0, rfl, Nat.zero_le _, rfl, rfl⟩
                  case round =>
                    obtain ⟨m, rfl, hm, rfl, hwr⟩ := hrel
                    subst hwr
                    by_cases hml : m < x.size
                    · have hxm := hxx m hml
                      have hmem : ∃ c, (bl x)[m]? = some c := ⟨_, List.getElem?_eq_getElem (by rw [bl_len]; exact hml)⟩
                      obtain ⟨c, hc⟩ := hmem
                      have hca : atL (bl x) m = c.toNat := by simp [atL, List.getD_eq_getElem?_getD, hc]
                      obtain ⟨c1, c2⟩ := HDg.out c (List.mem_of_getElem? hc)
                      have hv : Hid (valN ((bl x).take (m + 1)) = 10 * valN ((bl x).take m) + (c.toNat - 48)) := by
                        rw [Hid, List.take_add_one, hc, Option.toList_some, valN_more]
                      have hsm : valN ((bl x).take m) < 100000000 := valN_small8 (fun b hb => HDg.out b (List.mem_of_mem_take hb)) (by rw [List.length_take]; omega)
                      rw [hca] at hxm
                      have u0 : IntKind.u8.wrap ((c.toNat : Int) - 48) = (c.toNat : Int) - 48 := by rw [IntKind.wrap_u8]; omega
                      clear hc hca hxx hx0
                      generalize valN ((bl x).take m) = vm at *
                      generalize c.toNat = cn at *
                      go_wp2_with fail
                      go_roundw
                      case rel => exact ⟨m + 1, by go_num, hml, by rw [hv.out]; congr 1; omega, rfl⟩
                      case measure => simp [intOf]; omega
                    · have e : Hid ((bl x).take m = bl x) := List.take_of_length_le (by rw [bl_len]; omega)
                      have hcv : Hid (valN ((bl x).take m) = valN (bl x)) := by rw [Hid, e.out]
                      clear hxx hx0
                      generalize valN ((bl x).take m) = vm at *
                      go_wp2_with (at_builtin; refine wpList_append_own_at _ rfl (.tmp 104) (.tmp 107) 35 rfl w.heap.size 74 i0 _ 3 32 Tryd.underlying35 hi0 hz0 hz1 hz2 rfl (by omega) _ t.length (rowsT t) rfl (HO2.out.alloc _) ⟨wz.heap.size, 0, none⟩ 1 1 [.int .i64 1, .int .i64 (vm : Int), .string { data := #[] }] rfl rfl (news3 _ _ _ _ _) (by intro u hu; simp at hu; rcases hu with rfl | rfl | rfl <;> rfl) (by simp only [maxLen]; omega) (by omega) (by have := HB2.out.size; simp; omega) ?_)
                      intro v' w3 hown hgrow _ hblk
                      obtain ⟨a', n', c', rfl⟩ : ∃ a' n' c', v' = .slice a' n' c' := by
                        rcases hown.2 with ⟨hv, _⟩ | ⟨g, cp, cur, hv, _⟩
                        · exact ⟨_, _, _, hv⟩
                        · exact ⟨_, _, _, hv⟩
                      have HG := Lib.hid hgrow; clear hgrow
                      have HN := Lib.hid hown; clear hown
                      clear hblk
                      go_wp2_with fail
                      go_roundw
                      case rel =>
                        refine ⟨j, t ++ [.num (vm : Int)], by go_num, by omega, ?_, ⟨_, _, _, rfl⟩, ?_, (HB2.out.alloc (by have := HB2.out.size; omega) _).grown HG.out (by have := HB2.out.size; simp; omega) (fun g hg => (HO2.out.lt g hg).1), by simp; omega⟩
                        · rw [HRes.out, Hok.out (by rw [HT.out]), after_after, hjN.out, HT.out, hcv.out]; rfl
                        · rw [rowsT_more, List.length_append]; exact HN.out
                      case measure => simp [intOf]; omega
    · have HE : Hid (res (bl s) = ⟨t, s.size, 0⟩) := by
        have e : (bl s).drop pos = [] := List.drop_eq_nil_of_le (by rw [bl_len]; omega)
        have hps : pos = s.size := by omega
        rw [Hid, hr, e, res_nil, hps]
        simp [Res.after]
      clear hr
      go_wp2_with fail
      go_ret3
      rw [HE.out]
      have ho := HO.out
      have hvn : vn = t.length := by
        rcases ho.2 with ⟨hv, h0⟩ | ⟨g, cp, cur, hv, _⟩
        · simp at hv; omega
        · simp at hv; omega
      subst hvn
      exact ⟨va, vc, rfl, ho, B⟩
end Go.Proofs.YtboagdmjibdlhaaDoor
