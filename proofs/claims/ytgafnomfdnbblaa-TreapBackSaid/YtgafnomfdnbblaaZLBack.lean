/- The law TreapBack: its walk. Printed by wip/tools/trqlb.py. -/
import Derived.Test.YtgafnomfdnbblaaZK
namespace Go.Proofs.Ytgafnomfdnbblaa
open Go.RowKit

set_option maxRecDepth 100000

theorem PR.onlyB {c : Nat} {w w' w0 : World} {zb : Nat} {vc : Array Value} {V S T : Int} {q p gb cap pb mb vb cp cm cv base rg i n : Nat} {g : Mg9} {mk : Nat → Nat} {ts : List Tp} {vr v : Value} {vs : List Value} (h : PR w q V S T p n pb cp mb cm vb cv vr rg i v) (hB : BW c w0 w zb vc ⟨V, S, T, q, p, gb, cap, pb, mb, vb, cp, cm, cv, base⟩ g mk ts vr vs) (ho : Only p gb w w') : PR w' q V S T p n pb cp mb cm vb cv vr rg i v := by
  obtain ⟨m, _, A⟩ := hB.tt
  exact h.only A ho
theorem bsizeA {c : Nat} {w w0 : World} {zb : Nat} {vc : Array Value} {V S T : Int} {q p gb cap pb mb vb cp cm cv base n : Nat} {g : Mg9} {mk : Nat → Nat} {ts : List Tp} {vr : Value} {vs : List Value} {t : Tp} (h : BW (c + 1) w0 w zb vc ⟨V, S, T, q, p, gb, cap, pb, mb, vb, cp, cm, cv, base⟩ g mk ts vr vs) (hmk : ∀ x, mk x < 4) (hL : Loose (vxN V) mk g t) (hs : t.size = n) (hn : n ≤ 40) (hr : t.root ≤ nN V S) :
    Calls Try.prog 18 #[vTr V S T p, .int .i64 (t.root : Int)] w (Rd c w0 zb vc ⟨V, S, T, q, p, gb, cap, pb, mb, vb, cp, cm, cv, base⟩ g mk ts vr vs (.int .i64 (n : Int)) w) := by
  subst hs
  exact bsizeT h hmk hL (by omega) hr
/-- Between two calls of a case. -/
def LpRel (w0 : World) (zb : Nat) (vc : Array Value) (K : PK9) (pri : Nat → Nat) (ol : Nat) (i : Value) (W : World) : Prop :=
  ∃ k m g mk ts vr vs, k ≤ ol ∧ i = .int .i64 ((k : Nat) : Int) ∧ m ≤ 1000 + 1000 * k ∧ LW w0 W zb vc K m g mk ts vr vs ∧ ∀ x, 1 ≤ x → x ≤ nN K.V K.S → g x 5 = pri x
section
variable {V S T : Int} {da oa : Option Addr} {dl dc ol oc : Nat} {f : Nat → Nat} {fo : Nat → Op5}
set_option maxHeartbeats 16000000 in
theorem lback (row : Int) (_hr1 : -9223372036854775808 ≤ row) (hr2 : row ≤ 9223372036854775807) (k0 : Int) (hk1 : -9223372036854775808 ≤ k0) (hk2 : k0 ≤ 9223372036854775807) (w : World) (hD : IsNum w da dl f) (hO : IsOp5 w oa ol fo) :
    Calls Try.prog 5 #[vC9 V S T da dl dc oa ol oc, .int .i64 row, .int .i64 k0] w fun e w' => e = .returned (.bool true) ∧ Below w.heap.size w w' := by
  have HD := Lib.hid hD
  have HO := Lib.hid hO
  clear hD hO
  have HB1 : Hid (Below w.heap.size w (w.alloc (.cells #[.int .i64 V, .int .i64 S, .int .i64 T, .slice da dl dc, .slice oa ol oc] 27))) := Lib.hid ((Below.refl _ _).alloc (Nat.le_refl _) _)
  have HZ1 : Hid (Blk (w.alloc (.cells #[.int .i64 V, .int .i64 S, .int .i64 T, .slice da dl dc, .slice oa ol oc] 27)) w.heap.size 27 #[.int .i64 V, .int .i64 S, .int .i64 T, .slice da dl dc, .slice oa ol oc]) := Lib.hid (Blk.new _ _ _)
  go_enter Try.func5, Try.ntmps5
  go_wp2_with fail
  generalize w.heap.size = zb at HZ1 ⊢
  generalize w.alloc (.cells #[.int .i64 V, .int .i64 S, .int .i64 T, .slice da dl dc, .slice oa ol oc] 27) = W1 at HZ1 HB1 ⊢
  refine (right_case V S T da dl dc oa ol oc _).mono ?_; rintro e w2 ⟨rfl, hb2⟩
  have HB2 := Lib.hid (HB1.out.trans (hb2.mono HB1.out.size))
  have HZ2 := Lib.hid (HZ1.out.below hb2 HZ1.out.lt)
  clear HB1 HZ1 hb2
  cases hr : rgt9 V S T dl ol
  · go_wp2_with fail
    refine (awake_any _).mono ?_; rintro e w3 ⟨rfl, hb3⟩
    have HB3 := Lib.hid (HB2.out.trans (hb3.mono HB2.out.size))
    go_wp2_with fail
    go_ret
    exact ⟨rfl, HB3.out⟩
  have HG := Lib.hid (rgt9_yes hr)
  clear hr
  have z0 := HZ2.out.cell 0
  have z1 := HZ2.out.cell 1
  have z2 := HZ2.out.cell 2
  have z3 := HZ2.out.cell 3
  have z4 := HZ2.out.cell 4
  have zlt := HZ2.out.lt
  go_wp2_with fail
  refine (lbegun HG.out.r (HD.out.below HB2.out) HG.out.d HZ2.out HB2.out).mono ?_
  rintro e w3 ⟨q, p, gb, cap, pb, mb, vb, cp, cm, cv, base, g0, vr0, vs0, rfl, hL, hpri, _, _⟩
  have HL := Lib.hid hL
  have HP := Lib.hid hpri
  have HN := Lib.hid HG.out.few
  have HOL := Lib.hid HG.out.o
  have holI : (ol : Int) ≤ 60 := by have := HG.out.o; omega
  have HM : Hid (10 * nN V S ≤ 400) := Lib.hid (by have := HN.out; omega)
  clear hL hpri z0 z1 z2 z3 z4 zlt HZ2 HB2
  have HRel : Hid (LpRel w zb #[.int .i64 V, .int .i64 S, .int .i64 T, .slice da dl dc, .slice oa ol oc] ⟨V, S, T, q, p, gb, cap, pb, mb, vb, cp, cm, cv, base⟩ (priF dl f) ol (.int .i64 0) w3) := Lib.hid ⟨0, _, _, _, _, _, _, Nat.zero_le _, rfl, by have := HN.out; omega, HL.out, HP.out⟩
  have z4 := HL.out.z.cell 4
  have zlt := HL.out.z.lt
  clear HL HP HM
  go_wp2_with fail
  go_loopw [25] (fun i wr => LpRel w zb #[.int .i64 V, .int .i64 S, .int .i64 T, .slice da dl dc, .slice oa ol oc] ⟨V, S, T, q, p, gb, cap, pb, mb, vb, cp, cm, cv, base⟩ (priF dl f) ol i wr) (fun i _ => ol - (intOf i).toNat)
  case atStart => exact HRel.out
  case round =>
    clear HRel z4 zlt
    obtain ⟨k, m, g, mk, ts, vr, vs, hk, rfl, hm, hL, hpri⟩ := hrel
    have HL := Lib.hid hL
    have HP := Lib.hid hpri
    have HMK := Lib.hid hm
    clear hL hpri
    by_cases hkl : k < ol
    · obtain ⟨ob, off, rfl, hcell⟩ := HO.out (by omega)
      have hc := hcell k hkl
      obtain ⟨o, ho⟩ : ∃ o, fo k = o := ⟨_, rfl⟩
      rw [ho] at hc
      obtain ⟨kd, oa1, ob1, ok1, on⟩ := o
      have c0 := cell_later HL.out.be hc.1
      have c1 := cell_later HL.out.be hc.2.1
      have c2 := cell_later HL.out.be hc.2.2.1
      have c3 := cell_later HL.out.be hc.2.2.2.1
      have c4 := cell_later HL.out.be hc.2.2.2.2.1
      have HF := Lib.hid hc.2.2.2.2.2
      have hkI : (k : Int) < (ol : Int) := by omega
      have hk0 : (0 : Int) ≤ (k : Int) := by omega
      have HM1 : Hid (m ≤ 900000) := Lib.hid (by have := HOL.out; omega)
      have HLa := Lib.hid (HL.out.below ((Below.refl _ _).alloc (Nat.le_refl _) (.cells #[.int .i64 kd, .int .i64 oa1, .int .i64 ob1, .int .i64 ok1, .bool on] 33)))
      clear hc ho hcell HL hm
      go_wp2_with fail
      refine (lstep HLa.out HF.out.1 HF.out.2.1 HF.out.2.2 (Nat.le_trans HM1.out (by omega))).mono ?_
      rintro e w5 ⟨rfl, g', mk', ts', vr', vs', hL5, _, h5⟩
      have HL5 := Lib.hid hL5
      have H5 := Lib.hid h5
      clear hL5 h5 HLa c0 c1 c2 c3 c4
      have HL6 := HL5
      go_wp2_with fail
      go_roundw
      case rel => exact ⟨k + 1, _, g', mk', ts', vr', vs', hkl, by simp, by have := HMK.out; have := HN.out; omega, HL6.out, fun x h1 h2 => (H5.out x).trans (HP.out x h1 h2)⟩
      case measure => simp [intOf]; omega
    · have ek : k = ol := by omega
      subst ek
      have hkI : ¬ (k : Int) < (k : Int) := by omega
      have HM1 : Hid (m ≤ 100000) := Lib.hid (by have := HOL.out; omega)
      clear hk hkl
      go_wp2_with fail
      refine (lrow (x := row) HL.out.pl (by have h9 : ts.length ≤ nN V S := HL.out.ff.len; have := HN.out; omega) hr2).mono ?_
      rintro e w5 ⟨rfl, hb5⟩
      have HL5 := Lib.hid (HL.out.below hb5)
      clear HL hb5
      obtain ⟨I, hI⟩ : ∃ I, rowF row ts.length = I := ⟨_, rfl⟩
      have HI := Lib.hid hI
      rw [hI]
      clear hI
      rcases rowF_cases row ts.length with h1 | ⟨i, h1, hi⟩
      · have e : I = -1 := HI.out.symm.trans h1
        subst e
        clear h1
        go_wp2_with fail
        refine (awake_any _).mono ?_; rintro e w9 ⟨rfl, hb9⟩
        have HBE := Lib.hid ((HL5.out.below hb9).be)
        go_wp2_with fail
        go_ret
        exact ⟨rfl, HBE.out⟩
      have e : I = (i : Int) := HI.out.symm.trans h1
      subst e
      have hi0 : ¬ (i : Int) < 0 := by omega
      clear h1 HI
      obtain ⟨va, ta, hva, hta, lia, _, ca1, ca2, rfl⟩ := HL5.out.pl.ro.get hi
      obtain ⟨rg, rc, rfl, _, hrlt, cs, hz, hcs⟩ := RowV.at HL5.out.pl.rv hva
      have hi1 : (i : Int) < (vs.length : Int) := by have := HL5.out.pl.ro.1; omega
      have hi2 : (0 : Int) ≤ (i : Int) := by omega
      have HVA := Lib.hid hva
      have HTA := Lib.hid hta
      have HPR : Hid (PR w5 q V S T p (nN V S) pb cp mb cm vb cv (.slice (some ⟨rg, 0, none⟩) vs.length rc) rg i (.slice ca1 ta.row.length ca2)) := Lib.hid ⟨HL5.out.pf, cs, hz, hcs i _ hva⟩
      have HB5 := Lib.hid (HL5.out.bw (c := 100) HN.out (by have := HM1.out; omega))
      have HF := Lib.hid HL5.out.ff
      have HTL : Hid (ta.size ≤ 40) := Lib.hid (by have := (HF.out.at hta).2.2.2.2.2; have := HN.out; omega)
      clear hva hta lia hz hcs hrlt HL5
      obtain ⟨nt, hnt⟩ : ∃ n, ta.row.length = n := ⟨_, rfl⟩
      have HNT := Lib.hid hnt
      have ntI : (nt : Int) ≤ 40 := by have := HTL.out; unfold Tp.size at this; omega
      rw [hnt] at HPR HVA
      clear hnt
      have HPd := Lib.hid HPR.out.drew
      have HBd := Lib.hid HB5.out.drew
      have hpr := pr_rule q V S T p (nN V S) pb cp mb cm vb cv (.slice (some ⟨rg, 0, none⟩) vs.length rc) rg i (.slice ca1 nt ca2)
      clear HPR HB5
      obtain ⟨y0, y1, y2, y4, y5, y6, y7, y8, y9, y10, y11, y12, y13, yr⟩ := hpr _ HPd.out
      have hlt := HPd.out.lt.1
      have hlt2 := HPd.out.lt.2
      go_upto_region 15 with fail
      go_region_held3 (fun W => PR W q V S T p (nN V S) pb cp mb cm vb cv (.slice (some ⟨rg, 0, none⟩) vs.length rc) rg i (.slice ca1 nt ca2)) (first | (with_reducible assumption) | (with_reducible exact HPr.out) | (with_reducible exact HPd.out))
        (first
          | (go_at_call 14; ((with_reducible refine (brroot HBd.out HF.out HVA.out HTA.out _ _ _).mono ?_); rintro e w6 ⟨rfl, hb6', hb6⟩; have HBr := Lib.hid hb6'; have HPr := Lib.hid (HPd.out.below hb6))))
      clear y0 y1 y2 y4 y5 y6 y7 y8 y9 y10 y11 y12 y13 yr hlt hlt2 HPd HBd hb6' hb6
      obtain ⟨y0, y1, y2, y4, y5, y6, y7, y8, y9, y10, y11, y12, y13, yr⟩ := hpr _ HPr.out
      have hlt := HPr.out.lt.1
      have hlt2 := HPr.out.lt.2
      obtain ⟨m6, hm6, A6⟩ := HBr.out.tt
      have HM6 := Lib.hid hm6
      have HA6 := Lib.hid A6
      clear hm6 A6
      go_wp2_with fail
      refine (fsplit HA6.out HF.out HTA.out hk1 hk2 (by have := HM6.out; omega) rfl).mono ?_
      rintro e w7 ⟨g7, sa, sb, rfl, A7, F7, ra, rb, Ha, Hb, Sa, Sb, O7, h57⟩
      have HB7 := Lib.hid (HBr.out.only (c' := 20) A7 (by have := HM6.out; have := HN.out; omega) O7 h57)
      have HPR7 := Lib.hid (HPr.out.only HA6.out O7)
      have HF7 := Lib.hid F7
      have RA := Lib.hid ra
      have RB := Lib.hid rb
      have HHA := Lib.hid Ha
      have HHB := Lib.hid Hb
      have SA := Lib.hid Sa
      have SB := Lib.hid Sb
      have H57 := Lib.hid h57
      have HSZ : Hid (sa.size + sb.size = nt) := Lib.hid (by
        have h1 : sa.row ++ sb.row = ta.row := by rw [ra, rb, List.take_append_drop]
        rw [← HNT.out, ← h1, List.length_append]; rfl)
      have HRT : Hid (sa.root ≤ nN V S ∧ sb.root ≤ nN V S) := Lib.hid (by
        have a5 := (HF.out.at HTA.out).2.2.2.2.1
        have h1 : sa.row ++ sb.row = ta.row := by rw [ra, rb, List.take_append_drop]
        exact ⟨root_le fun y hy => a5 y (by rw [← h1]; exact List.mem_append_left _ hy), root_le fun y hy => a5 y (by rw [← h1]; exact List.mem_append_right _ hy)⟩)
      clear y0 y1 y2 y4 y5 y6 y7 y8 y9 y10 y11 y12 y13 yr hlt hlt2 A7 F7 ra rb Ha Hb Sa Sb O7 h57 HBr HPr HA6 HM6
      have HPd := Lib.hid HPR7.out.drew
      have HBd := Lib.hid HB7.out.drew
      clear HPR7 HB7
      obtain ⟨y0, y1, y2, y4, y5, y6, y7, y8, y9, y10, y11, y12, y13, yr⟩ := hpr _ HPd.out
      have hlt := HPd.out.lt.1
      have hlt2 := HPd.out.lt.2
      have hsI : ((sa.size : Nat) : Int) + ((sb.size : Nat) : Int) = (nt : Int) := by have := HSZ.out; omega
      have hsW : IntKind.i64.wrap (((sa.size : Nat) : Int) + ((sb.size : Nat) : Int)) = (nt : Int) := by rw [hsI]; exact IntWalk.i64_in _ (by omega)
      have hsN : ((nt : Int) != (nt : Int)) = false := bne_self_eq_false _
      obtain ⟨za, hza⟩ : ∃ z, sa.size = z := ⟨_, rfl⟩
      obtain ⟨zb9, hzb⟩ : ∃ z, sb.size = z := ⟨_, rfl⟩
      have HZA := Lib.hid hza
      have HZB := Lib.hid hzb
      rw [hza, hzb] at hsW
      have HZL : Hid (za ≤ 40 ∧ zb9 ≤ 40) := Lib.hid (by have := HSZ.out; omega)
      clear hsI hza hzb
      go_upto_region 17 with fail
      go_region_held3 (fun W => PR W q V S T p (nN V S) pb cp mb cm vb cv (.slice (some ⟨rg, 0, none⟩) vs.length rc) rg i (.slice ca1 nt ca2)) (first | (with_reducible assumption) | (with_reducible exact HPx.out) | (with_reducible exact HPd.out))
        (first
          | (go_at_call 18; have C9 := bsizeA HBd.out HF7.out.hm SA.out.1 HZA.out HZL.out.1 HRT.out.1; ((with_reducible refine C9.mono ?_); clear C9; rintro e w8 ⟨rfl, hb8, O8⟩; have HPx := Lib.hid (PR.onlyB HPd.out HBd.out O8); have HPd := HPx; have HBd := Lib.hid hb8))
          | (go_at_call 18; have C9 := bsizeA HBd.out HF7.out.hm SB.out.1 HZB.out HZL.out.2 HRT.out.2; ((with_reducible refine C9.mono ?_); clear C9; rintro e w8 ⟨rfl, hb8, O8⟩; have HPx := Lib.hid (PR.onlyB HPd.out HBd.out O8); have HPd := HPx; have HBd := Lib.hid hb8)))
      all_goals
        clear y0 y1 y2 y4 y5 y6 y7 y8 y9 y10 y11 y12 y13 yr hlt hlt2
        obtain ⟨y0, y1, y2, y4, y5, y6, y7, y8, y9, y10, y11, y12, y13, yr⟩ := hpr _ HPx.out
        have hlt := HPx.out.lt.1
        obtain ⟨m8, hm8, A8⟩ := HBd.out.tt
        have HM8 := Lib.hid hm8
        have HA8 := Lib.hid A8
        clear hm8 A8
        go_wp2_with fail
        refine (fagain HA8.out HF.out HTA.out HF7.out RA.out RB.out SA.out SB.out HHA.out HHB.out H57.out (by have := HM8.out; omega)).mono ?_
        rintro e w9 ⟨g9, rfl, A9, F9, O9, h59⟩
        have HB9 := Lib.hid (HBd.out.only (c' := 0) A9 (by have := HM8.out; have := HN.out; omega) O9 h59)
        have HF9 := Lib.hid F9
        have hrb : ((ta.root : Int) == (ta.root : Int)) = true := beq_self_eq_true _
        clear y0 y1 y2 y4 y5 y6 y7 y8 y9 y10 y11 y12 y13 yr hlt A9 F9 O9 h59 HA8 HM8
        go_wp2_with fail
        refine (bis HB9.out HF9.out).mono ?_; rintro e w10 ⟨rfl, hb10⟩
        have HB10 := Lib.hid hb10
        clear hb10
        go_wp2_with fail
        refine (awake_any _).mono ?_; rintro e w11 ⟨rfl, hb11⟩
        have HBE := Lib.hid (HB10.out.trans (hb11.mono HB10.out.size))
        go_wp2_with fail
        go_ret
        exact ⟨rfl, HBE.out⟩
end

end Go.Proofs.Ytgafnomfdnbblaa
