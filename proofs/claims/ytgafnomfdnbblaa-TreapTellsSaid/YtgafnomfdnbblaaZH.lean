/- The law's step. -/
import Derived.Test.YtgafnomfdnbblaaZG

/- The law's step. Printed by wip/tools/trqe.py. -/
namespace Go.Proofs.Ytgafnomfdnbblaa
open Go.RowKit

set_option maxRecDepth 100000

section
variable {w : World} {V S T : Int} {q p gb cap pb mb vb cp cm cv base m : Nat} {g : Mg9} {mk : Nat → Nat} {ts : List Tp} {vr : Value} {vs : List Value} {kd a b k : Int} {on : Bool}
set_option maxHeartbeats 8000000 in
theorem step1 (h : PlayM w ⟨V, S, T, q, p, gb, cap, pb, mb, vb, cp, cm, cv, base⟩ m g mk ts vr vs) (hF : FI V S g mk ts) (hK : KOk ⟨V, S, T, q, p, gb, cap, pb, mb, vb, cp, cm, cv, base⟩) (ha : a ≤ 9223372036854775807) (hb : b ≤ 9223372036854775807) (hk1 : -9223372036854775808 ≤ k) (hk2 : k ≤ 9223372036854775807) (hm : m ≤ 950000) :
    Calls Try.prog 12 #[.pointer (some ⟨q, 0, none⟩), .agg #[.int .i64 1, .int .i64 a, .int .i64 b, .int .i64 k, .bool on]] w (StepD ⟨V, S, T, q, p, gb, cap, pb, mb, vb, cp, cm, cv, base⟩ (m + 12 * nN V S + 7) g w) := by
  have HST0 := Lib.hid (St9.new h hK (1) a b k on)
  have HF := Lib.hid hF
  have HK := Lib.hid hK
  have HN := Lib.hid (nN_le (V := V) (S := S) (T := T) h.tm.hR)
  have hts : Hid (ts.length ≤ 100000) := Lib.hid (by have := hF.len; have := HN.out; omega)
  have Ha := Lib.hid ha
  have Hb := Lib.hid hb
  have Hk1 := Lib.hid hk1
  have Hk2 := Lib.hid hk2
  have Hm := Lib.hid hm
  have hqlt := Blk.lt h.blk
  change q < w.heap.size at hqlt
  clear h hF hK ha hb hk1 hk2 hm
  go_enter Try.func12, Try.ntmps12
  go_wp2_with fail
  generalize hob : w.heap.size = ob at HST0 ⊢
  generalize w.alloc (.cells #[.int .i64 1, .int .i64 a, .int .i64 b, .int .i64 k, .bool on] 33) = W0 at HST0 ⊢
  have hpo := po_rule q V S T p (nN V S) pb cp mb cm vb cv vr ob (1) a b k on
  have HPd := Lib.hid HST0.out.po.drew
  have HSd := Lib.hid HST0.out.drew
  obtain ⟨y0, y1, y2, y4, y5, y6, y7, y8, y9, y10, y11, y12, y13, z0, z1, z2, z3, z4⟩ := hpo _ HPd.out
  have hlt := HPd.out.p.lt
  have hlt2 := HPd.out.o.lt
  go_region_held3 (fun W => PO W q V S T p (nN V S) pb cp mb cm vb cv vr ob (1) a b k on) (first | (with_reducible assumption) | (with_reducible exact PO.below (by assumption) hb1) | (with_reducible exact HPd.out))
    (first
      | (go_at_call 22; ((with_reducible refine (lrow (x := a) (St9.pl (Hid.out (by assumption : Hid (St9 _ _ ⟨V, S, T, q, p, gb, cap, pb, mb, vb, cp, cm, cv, base⟩ m g mk ts vr vs ob (1) a b k on)))) hts.out Ha.out).mono ?_); rintro e w1 ⟨rfl, hb1⟩; have HSa := Lib.hid ((Hid.out (by assumption : Hid (St9 _ _ ⟨V, S, T, q, p, gb, cap, pb, mb, vb, cp, cm, cv, base⟩ m g mk ts vr vs ob (1) a b k on))).below hb1)))
      | (go_at_call 22; ((with_reducible refine (lrow (x := b) (St9.pl (Hid.out (by assumption : Hid (St9 _ _ ⟨V, S, T, q, p, gb, cap, pb, mb, vb, cp, cm, cv, base⟩ m g mk ts vr vs ob (1) a b k on)))) hts.out Hb.out).mono ?_); rintro e w1 ⟨rfl, hb1⟩; have HSb := Lib.hid ((Hid.out (by assumption : Hid (St9 _ _ ⟨V, S, T, q, p, gb, cap, pb, mb, vb, cp, cm, cv, base⟩ m g mk ts vr vs ob (1) a b k on))).below hb1))))
  all_goals
    have HST : Hid (St9 w _ ⟨V, S, T, q, p, gb, cap, pb, mb, vb, cp, cm, cv, base⟩ m g mk ts vr vs ob (1) a b k on) := Lib.hid (Hid.out (by assumption : Hid (St9 w _ ⟨V, S, T, q, p, gb, cap, pb, mb, vb, cp, cm, cv, base⟩ m g mk ts vr vs ob (1) a b k on)))
    obtain ⟨I, hI⟩ : ∃ I, rowF a ts.length = I := ⟨_, rfl⟩
    obtain ⟨J, hJ⟩ : ∃ J, rowF b ts.length = J := ⟨_, rfl⟩
    have HI := Lib.hid hI
    have HJ := Lib.hid hJ
    rw [hI, hJ]
    clear hI hJ HST0 HPd HSd HSa HSb hb1 y0 y1 y2 y4 y5 y6 y7 y8 y9 y10 y11 y12 y13 z0 z1 z2 z3 z4 hlt hlt2
    obtain ⟨y0, y1, y2, y4, y5, y6, y7, y8, y9, y10, y11, y12, y13, z0, z1, z2, z3, z4⟩ := hpo _ HST.out.po
    have hlt := (HST.out.po).p.lt
    have hlt2 := (HST.out.po).o.lt
    rcases rowF_cases a ts.length with h1 | ⟨i, h1, hi⟩
    · have e : I = -1 := HI.out.symm.trans h1
      subst e
      go_wp2_with fail
      go_ret
      exact ⟨g, mk, ts, vr, vs, rfl, HST.out.pl.more (by omega), HF.out, HST.out.be, fun _ => rfl⟩
    rcases rowF_cases b ts.length with h2 | ⟨j, h2, hj⟩
    · have e : I = (i : Int) := HI.out.symm.trans h1
      have e2 : J = -1 := HJ.out.symm.trans h2
      subst e e2
      have hi0 : ¬ (i : Int) < 0 := by omega
      clear h1 h2
      go_wp2_with fail
      go_ret
      exact ⟨g, mk, ts, vr, vs, rfl, HST.out.pl.more (by omega), HF.out, HST.out.be, fun _ => rfl⟩
    have e : I = (i : Int) := HI.out.symm.trans h1
    have e2 : J = (j : Int) := HJ.out.symm.trans h2
    subst e e2
    have hi0 : ¬ (i : Int) < 0 := by omega
    have hj0 : ¬ (j : Int) < 0 := by omega
    clear h1 h2 HI HJ
    by_cases hij : i = j
    · have hb : ((i : Int) == (j : Int)) = true := by rw [hij]; simp
      clear hij
      go_wp2_with fail
      go_ret
      exact ⟨g, mk, ts, vr, vs, rfl, HST.out.pl.more (by omega), HF.out, HST.out.be, fun _ => rfl⟩
    have hb : ((i : Int) == (j : Int)) = false := beq_eq_false_iff_ne.2 (by omega)
    have HIJ := Lib.hid hij
    obtain ⟨va, ta, hva, hta, lia, mba, ca1, ca2, rfl⟩ := HST.out.pl.ro.get hi
    obtain ⟨vb1, tb, hvb, htb, lib, mbb, cb1, cb2, rfl⟩ := HST.out.pl.ro.get hj
    obtain ⟨rg, rc, rfl, hrg, hrlt, cs, hz, hcs⟩ := RowV.at HST.out.pl.rv hva
    have cI := (hz.cell i).trans (hcs i _ hva)
    have cJ := (hz.cell j).trans (hcs j _ hvb)
    have hi1 : (i : Int) < (vs.length : Int) := by have := HST.out.pl.ro.1; omega
    have hj1 : (j : Int) < (vs.length : Int) := by have := HST.out.pl.ro.1; omega
    have hi2 : (0 : Int) ≤ (i : Int) := by omega
    have hj2 : (0 : Int) ≤ (j : Int) := by omega
    have HVA := Lib.hid hva
    have HVB := Lib.hid hvb
    have HTA := Lib.hid hta
    have HTB := Lib.hid htb
    have LA := Lib.hid lia
    have LB := Lib.hid lib
    have HLN : Hid (ta.row.length + tb.row.length ≤ 100000) := Lib.hid (by
      have h1 := (HF.out.at hta).2.2.2.2.2
      have h2 := (HF.out.at htb).2.2.2.2.2
      have := HN.out
      unfold Tp.size at h1 h2; omega)
    obtain ⟨na, hna⟩ : ∃ n, ta.row.length = n := ⟨_, rfl⟩
    obtain ⟨nb, hnb⟩ : ∃ n, tb.row.length = n := ⟨_, rfl⟩
    have HNA := Lib.hid hna
    have HNB := Lib.hid hnb
    rw [hna] at HVA LA cI
    rw [hnb] at HVB LB cJ
    clear hva hvb hta htb lia lib mba mbb hz hcs hna hnb hij
    go_wp2_with fail
    go_quiet (fail)
    have HST1 := Lib.hid (HST.out.below (drewN_below w1 nq))
    have LA1 := Lib.hid (LA.out.below (drewN_below w1 nq))
    have LB1 := Lib.hid (LB.out.below (drewN_below w1 nq))
    clear HST LA LB cI cJ hrlt y0 y1 y2 y4 y5 y6 y7 y8 y9 y10 y11 y12 y13 z0 z1 z2 z3 z4 hlt hlt2
    generalize w1.drewN nq = W1 at HST1 LA1 LB1 ⊢
    have hsl := HST1.out.pl.size
    go_wp2_with (at_builtin; go_loud (refine wpList_append_ri _ rfl _ _ rfl rfl (RI.empty _) rfl (LA1.out.alloc _) (by have := HLN.out; simp; omega) (by simp) ?_))
    intro v1 w3 hR1 hg1
    try rw [List.nil_append] at hR1
    have HB1 := Lib.hid (((Below.refl _ _).alloc (Nat.le_refl _) (.cells #[] 3)).grown hg1 (by simp) (fun r hr => ((RI.empty W1).lt r hr).1))
    have HR1 := Lib.hid hR1
    have hs3 := hg1.size
    rw [World.size_alloc] at hs3
    clear hR1 hg1
    go_wp2_with (at_builtin; go_loud (refine wpList_append_ri _ rfl _ _ rfl rfl HR1.out rfl (LB1.out.below HB1.out) HLN.out (by omega) ?_))
    intro v2 w4 hR2 hg2
    have HB2 := Lib.hid (HB1.out.grown hg2 (by omega) (fun r hr => (HR1.out.lt r hr).1))
    have HL2 := Lib.hid hR2.li
    have HM2 : Hid (bk v2 ≠ some mb) := Lib.hid (fun e => by have := hR2.bk _ e; omega)
    obtain ⟨a4, c4, rfl, _, _⟩ := hR2.li.shape
    obtain ⟨n4, hn4⟩ : ∃ n, (ta.row ++ tb.row).length = n := ⟨_, rfl⟩
    rw [hn4] at HL2 HM2 ⊢
    have HST4 := Lib.hid (HST1.out.below HB2.out)
    have LA4 := Lib.hid (LA1.out.below HB2.out)
    have LB4 := Lib.hid (LB1.out.below HB2.out)
    clear HB1 HR1 hR2 hg2 HB2 hn4 HST1 LA1 LB1 hs3 hsl
    go_wp2_with fail
    have Hm2 : Hid (m ≤ 960000) := Lib.hid (by have := Hm.out; omega)
    have HPd := Lib.hid HST4.out.po.drew
    have HSd := Lib.hid HST4.out.drew
    have LAd := Lib.hid LA4.out.drew
    clear HST4 LA4 LB4
    obtain ⟨y0, y1, y2, y4, y5, y6, y7, y8, y9, y10, y11, y12, y13, z0, z1, z2, z3, z4⟩ := hpo _ HPd.out
    have hlt := HPd.out.p.lt
    go_region_held3 (fun W => PO W q V S T p (nN V S) pb cp mb cm vb cv (.slice (some ⟨rg, 0, none⟩) vs.length rc) ob 1 a b k on) (first | (with_reducible assumption) | (with_reducible exact PO.below (by assumption) hb1) | (with_reducible exact PO.only (by assumption) (PlayM.tm (St9.pl (Hid.out (by assumption : Hid (St9 w _ ⟨V, S, T, q, p, gb, cap, pb, mb, vb, cp, cm, cv, base⟩ m g mk ts (.slice (some ⟨rg, 0, none⟩) vs.length rc) vs ob 1 a b k on))))) O2) | (with_reducible exact HPd.out))
      (first
        | (go_at_call 14; ((with_reducible refine (lroot_at (St9.pl (Hid.out (by assumption : Hid (St9 w _ ⟨V, S, T, q, p, gb, cap, pb, mb, vb, cp, cm, cv, base⟩ m g mk ts (.slice (some ⟨rg, 0, none⟩) vs.length rc) vs ob 1 a b k on)))) HF.out HVA.out HTA.out _ _ _).mono ?_); rintro e w1 ⟨rfl, hb1⟩; have HSa := Lib.hid ((Hid.out (by assumption : Hid (St9 w _ ⟨V, S, T, q, p, gb, cap, pb, mb, vb, cp, cm, cv, base⟩ m g mk ts (.slice (some ⟨rg, 0, none⟩) vs.length rc) vs ob 1 a b k on))).below hb1); have HLa := Lib.hid ((Hid.out (by assumption : Hid (LI _ (.slice a4 n4 c4) (ta.row ++ tb.row)))).below hb1)))
        | (go_at_call 14; ((with_reducible refine (lroot_at (St9.pl (Hid.out (by assumption : Hid (St9 w _ ⟨V, S, T, q, p, gb, cap, pb, mb, vb, cp, cm, cv, base⟩ m g mk ts (.slice (some ⟨rg, 0, none⟩) vs.length rc) vs ob 1 a b k on)))) HF.out HVB.out HTB.out _ _ _).mono ?_); rintro e w1 ⟨rfl, hb1⟩; have HSb := Lib.hid ((Hid.out (by assumption : Hid (St9 w _ ⟨V, S, T, q, p, gb, cap, pb, mb, vb, cp, cm, cv, base⟩ m g mk ts (.slice (some ⟨rg, 0, none⟩) vs.length rc) vs ob 1 a b k on))).below hb1); have HLb := Lib.hid ((Hid.out (by assumption : Hid (LI _ (.slice a4 n4 c4) (ta.row ++ tb.row)))).below hb1)))
        | (go_at_call 24; ((with_reducible refine (pmerge (St9.pl (Hid.out (by assumption : Hid (St9 w _ ⟨V, S, T, q, p, gb, cap, pb, mb, vb, cp, cm, cv, base⟩ m g mk ts (.slice (some ⟨rg, 0, none⟩) vs.length rc) vs ob 1 a b k on)))) HF.out HIJ.out HTA.out HTB.out Hm2.out).mono ?_); rintro e w2 ⟨g', t, rfl, P2, F2, hrow, hne, hhp, O2, h5⟩; have HST8 := Lib.hid (St9.only (Hid.out (by assumption : Hid (St9 w _ ⟨V, S, T, q, p, gb, cap, pb, mb, vb, cp, cm, cv, base⟩ m g mk ts (.slice (some ⟨rg, 0, none⟩) vs.length rc) vs ob 1 a b k on))) HK.out P2 O2); have HF8 := Lib.hid F2; have HRW := Lib.hid hrow; have HHP := Lib.hid hhp; have H5 := Lib.hid h5; have HL8 := Lib.hid ((Hid.out (by assumption : Hid (LI _ (.slice a4 n4 c4) (ta.row ++ tb.row)))).onlyT (PlayM.tm (St9.pl (Hid.out (by assumption : Hid (St9 w _ ⟨V, S, T, q, p, gb, cap, pb, mb, vb, cp, cm, cv, base⟩ m g mk ts (.slice (some ⟨rg, 0, none⟩) vs.length rc) vs ob 1 a b k on))))) O2))))
    all_goals
      clear y0 y1 y2 y4 y5 y6 y7 y8 y9 y10 y11 y12 y13 z0 z1 z2 z3 z4 hlt
      clear HPd HSd LAd P2 F2 hrow hne hhp O2 h5 hb1
      have HMK := Lib.hid HF8.out.hm
      obtain ⟨y0, y1, y2, y4, y5, y6, y7, y8, y9, y10, y11, y12, y13, z0, z1, z2, z3, z4⟩ := hpo _ HST8.out.po
      have hlt := HST8.out.po.p.lt
      go_wp2_with fail
      refine (lwithout HST8.out.pl hts.out).mono ?_
      rintro e w3 ⟨vo, rfl, hRo, hb3⟩
      have HRo := Lib.hid hRo
      have HB3 := Lib.hid hb3
      have hcl : (wo i j 0 vs).length ≤ 100000 := by have := wo_le i j 0 vs; have := HST8.out.pl.ro.1; have := hts.out; omega
      have hbs := hb3.size
      have HBS : Hid (base ≤ w2.heap.size) := Lib.hid (Nat.le_trans HST8.out.hb HST8.out.be.size)
      clear y0 y1 y2 y4 y5 y6 y7 y8 y9 y10 y11 y12 y13 z0 z1 z2 z3 z4 hlt hRo hb3
      obtain ⟨ao, co, rfl⟩ := HRo.out.slice
      go_wp2_with (at_builtin; go_loud (refine wpList_append_row _ rfl _ _ rfl rfl (HRo.out.alloc _) (.slice a4 n4 c4) rfl ⟨w3.heap.size, 0, none⟩ 1 rfl (cell_new1 _ _ _) hcl (Nat.le_trans hbs (by simp)) ?_))
      intro v5 w5 hR5 hg5
      have HB5 := Lib.hid ((HB3.out.alloc hbs (.cells #[.slice a4 n4 c4] 44)).grown hg5 (by simp; omega) (fun r hr => ((HRo.out.alloc (.cells #[.slice a4 n4 c4] 44)).lt r hr).1))
      have HR5 := Lib.hid (hR5.mono HBS.out)
      have HST5 := Lib.hid (HST8.out.below HB5.out)
      have HL5 : Hid (LI w5 (.slice a4 n4 c4) t.row) := Lib.hid (by rw [HRW.out]; exact HL8.out.below HB5.out)
      have HRO5 := Lib.hid ((HST5.out.pl.ro.wo i j).snoc HL5.out HM2.out)
      obtain ⟨a5, c5, rfl⟩ := hR5.slice
      have HST6 := Lib.hid (HST5.out.rows HK.out HR5.out HRO5.out)
      have HL6 := Lib.hid HST6.out.pl.ro.last
      obtain ⟨n5, hn5⟩ : ∃ n, (wo i j 0 vs ++ [Value.slice a4 n4 c4]).length = n := ⟨_, rfl⟩
      rw [hn5] at HST6 HL6 ⊢
      have hfz : w5.frozen? ⟨q, 10, none⟩ = false := Blk.frozen HST5.out.po.p 10
      have hlt := HST5.out.po.p.lt
      obtain ⟨y0, y1, y2, y4, y5, y6, y7, y8, y9, y10, y11, y12, y13, z0, z1, z2, z3, z4⟩ := hpo _ HST5.out.po
      clear HST8 HL8 HB3 HRo hcl hbs HBS hR5 hg5 HB5 HR5 HST5 HL5 HRO5 hn5
      go_wp2_with fail
      have htn := HF8.out.at (i := (wo i j 0 ts).length) (t := t) (by simp)
      refine (lroot HST6.out.pl HL6.out HHP.out (fun y hy => (htn.2.2.2.2.1 y hy).2) (by have := htn.2.2.2.2.2; have := HN.out; unfold Tp.size at *; omega) _ _ _).mono ?_
      rintro e w7 ⟨rfl, hb7⟩
      have HST7 := Lib.hid (HST6.out.below hb7)
      clear htn hb7
      have hte : ((t.root : Int) == (t.root : Int)) = true := beq_self_eq_true _
      go_wp2_with fail
      go_ret
      exact ⟨g', mk, _, _, _, rfl, HST7.out.pl.more (by omega), HF8.out, HST7.out.be, H5.out⟩

end

end Go.Proofs.Ytgafnomfdnbblaa

/- The law's step. Printed by wip/tools/trqe.py. -/
namespace Go.Proofs.Ytgafnomfdnbblaa
open Go.RowKit

set_option maxRecDepth 100000

section
variable {w : World} {V S T : Int} {q p gb cap pb mb vb cp cm cv base m : Nat} {g : Mg9} {mk : Nat → Nat} {ts : List Tp} {vr : Value} {vs : List Value} {kd a b k : Int} {on : Bool}
set_option maxHeartbeats 8000000 in
theorem step2 (h : PlayM w ⟨V, S, T, q, p, gb, cap, pb, mb, vb, cp, cm, cv, base⟩ m g mk ts vr vs) (hF : FI V S g mk ts) (hK : KOk ⟨V, S, T, q, p, gb, cap, pb, mb, vb, cp, cm, cv, base⟩) (ha : a ≤ 9223372036854775807) (hb : b ≤ 9223372036854775807) (hk1 : -9223372036854775808 ≤ k) (hk2 : k ≤ 9223372036854775807) (hm : m ≤ 950000) :
    Calls Try.prog 12 #[.pointer (some ⟨q, 0, none⟩), .agg #[.int .i64 2, .int .i64 a, .int .i64 b, .int .i64 k, .bool on]] w (StepD ⟨V, S, T, q, p, gb, cap, pb, mb, vb, cp, cm, cv, base⟩ (m + 12 * nN V S + 7) g w) := by
  have HST0 := Lib.hid (St9.new h hK (2) a b k on)
  have HF := Lib.hid hF
  have HK := Lib.hid hK
  have HN := Lib.hid (nN_le (V := V) (S := S) (T := T) h.tm.hR)
  have hts : Hid (ts.length ≤ 100000) := Lib.hid (by have := hF.len; have := HN.out; omega)
  have Ha := Lib.hid ha
  have Hb := Lib.hid hb
  have Hk1 := Lib.hid hk1
  have Hk2 := Lib.hid hk2
  have Hm := Lib.hid hm
  have hqlt := Blk.lt h.blk
  change q < w.heap.size at hqlt
  clear h hF hK ha hb hk1 hk2 hm
  go_enter Try.func12, Try.ntmps12
  go_wp2_with fail
  generalize hob : w.heap.size = ob at HST0 ⊢
  generalize w.alloc (.cells #[.int .i64 2, .int .i64 a, .int .i64 b, .int .i64 k, .bool on] 33) = W0 at HST0 ⊢
  have hpo := po_rule q V S T p (nN V S) pb cp mb cm vb cv vr ob (2) a b k on
  have HPd := Lib.hid HST0.out.po.drew
  have HSd := Lib.hid HST0.out.drew
  obtain ⟨y0, y1, y2, y4, y5, y6, y7, y8, y9, y10, y11, y12, y13, z0, z1, z2, z3, z4⟩ := hpo _ HPd.out
  have hlt := HPd.out.p.lt
  have hlt2 := HPd.out.o.lt
  go_region_held3 (fun W => PO W q V S T p (nN V S) pb cp mb cm vb cv vr ob (2) a b k on) (first | (with_reducible assumption) | (with_reducible exact PO.below (by assumption) hb1) | (with_reducible exact HPd.out))
    (first
      | (go_at_call 22; ((with_reducible refine (lrow (x := a) (St9.pl (Hid.out (by assumption : Hid (St9 _ _ ⟨V, S, T, q, p, gb, cap, pb, mb, vb, cp, cm, cv, base⟩ m g mk ts vr vs ob (2) a b k on)))) hts.out Ha.out).mono ?_); rintro e w1 ⟨rfl, hb1⟩; have HSa := Lib.hid ((Hid.out (by assumption : Hid (St9 _ _ ⟨V, S, T, q, p, gb, cap, pb, mb, vb, cp, cm, cv, base⟩ m g mk ts vr vs ob (2) a b k on))).below hb1)))
      | (go_at_call 22; ((with_reducible refine (lrow (x := b) (St9.pl (Hid.out (by assumption : Hid (St9 _ _ ⟨V, S, T, q, p, gb, cap, pb, mb, vb, cp, cm, cv, base⟩ m g mk ts vr vs ob (2) a b k on)))) hts.out Hb.out).mono ?_); rintro e w1 ⟨rfl, hb1⟩; have HSb := Lib.hid ((Hid.out (by assumption : Hid (St9 _ _ ⟨V, S, T, q, p, gb, cap, pb, mb, vb, cp, cm, cv, base⟩ m g mk ts vr vs ob (2) a b k on))).below hb1))))
  all_goals
    have HST : Hid (St9 w _ ⟨V, S, T, q, p, gb, cap, pb, mb, vb, cp, cm, cv, base⟩ m g mk ts vr vs ob (2) a b k on) := Lib.hid (Hid.out (by assumption : Hid (St9 w _ ⟨V, S, T, q, p, gb, cap, pb, mb, vb, cp, cm, cv, base⟩ m g mk ts vr vs ob (2) a b k on)))
    obtain ⟨I, hI⟩ : ∃ I, rowF a ts.length = I := ⟨_, rfl⟩
    obtain ⟨J, hJ⟩ : ∃ J, rowF b ts.length = J := ⟨_, rfl⟩
    have HI := Lib.hid hI
    have HJ := Lib.hid hJ
    rw [hI, hJ]
    clear hI hJ HST0 HPd HSd HSa HSb hb1 y0 y1 y2 y4 y5 y6 y7 y8 y9 y10 y11 y12 y13 z0 z1 z2 z3 z4 hlt hlt2
    obtain ⟨y0, y1, y2, y4, y5, y6, y7, y8, y9, y10, y11, y12, y13, z0, z1, z2, z3, z4⟩ := hpo _ HST.out.po
    have hlt := (HST.out.po).p.lt
    have hlt2 := (HST.out.po).o.lt
    rcases rowF_cases a ts.length with h1 | ⟨i, h1, hi⟩
    · have e : I = -1 := HI.out.symm.trans h1
      subst e
      go_wp2_with fail
      go_ret
      exact ⟨g, mk, ts, vr, vs, rfl, HST.out.pl.more (by omega), HF.out, HST.out.be, fun _ => rfl⟩
    have e : I = (i : Int) := HI.out.symm.trans h1
    subst e
    have hi0 : ¬ (i : Int) < 0 := by omega
    clear h1 HI HJ
    obtain ⟨va, ta0, hva, hta, lia, mba, ca1, ca2, rfl⟩ := HST.out.pl.ro.get hi
    obtain ⟨rg, rc, rfl, hrg, hrlt, cs, hz, hcs⟩ := RowV.at HST.out.pl.rv hva
    have cI := (hz.cell i).trans (hcs i _ hva)
    have hi1 : (i : Int) < (vs.length : Int) := by have := HST.out.pl.ro.1; omega
    have hi2 : (0 : Int) ≤ (i : Int) := by omega
    have hne := (HF.out.at hta).2.2.1
    obtain ⟨rb, off, cap9, e9, hc9, hl9, hp9, _⟩ := lia.open_ (fun e => hne (Tp.row_eq_nil e))
    injection e9 with e1 e2 e3
    subst e1 e3
    have HVA := Lib.hid hva
    have HTA := Lib.hid hta
    have LA := Lib.hid lia
    have MA := Lib.hid mba
    have HLN : Hid (ta0.row.length ≤ 560) := Lib.hid (by
      have h1 := (HF.out.at hta).2.2.2.2.2
      have := HN.out
      unfold Tp.size at h1; omega)
    obtain ⟨na, hna⟩ : ∃ n, ta0.row.length = n := ⟨_, rfl⟩
    have HNA := Lib.hid hna
    rw [hna] at HVA LA cI hl9 HLN
    clear hva hta lia mba hz hcs hna hne e2
    obtain ⟨n, hn⟩ : ∃ n, min k.toNat na = n := ⟨_, rfl⟩
    have HNN := Lib.hid hn
    have hn1 : n ≤ na := by omega
    clear hn
    go_upto_region 15 with fail
    go_cut [12] from 111 to 116 (fun s wx => s = .int .i64 (n : Int) ∧ wx = w1)
    case first =>
      rcases Int.lt_or_le k 0 with g1 | g1
      · have g2 : (0 : Int) ≤ (na : Int) := by omega
        go_wp2_with fail
        go_meet
        exact ⟨by rw [show n = 0 by have := HNN.out; omega]; rfl, rfl⟩
      · rcases Int.lt_or_le (na : Int) k with g2 | g2
        · go_wp2_with fail
          go_meet
          exact ⟨by rw [show n = na by have := HNN.out; omega], rfl⟩
        · go_wp2_with fail
          go_meet
          exact ⟨by rw [show k = (n : Int) by have := HNN.out; omega], rfl⟩
    case rest =>
      obtain ⟨rfl, rfl⟩ := hcut
      clear y0 y1 y2 y4 y5 y6 y7 y8 y9 y10 y11 y12 y13 z0 z1 z2 z3 z4 hlt
      go_wp2_with fail
      have Hm2 : Hid (m ≤ 960000) := Lib.hid (by have := Hm.out; omega)
      have HPd := Lib.hid HST.out.po.drew
      have HSd := Lib.hid HST.out.drew
      have LAd := Lib.hid LA.out.drew
      clear HST LA
      obtain ⟨y0, y1, y2, y4, y5, y6, y7, y8, y9, y10, y11, y12, y13, z0, z1, z2, z3, z4⟩ := hpo _ HPd.out
      have hlt := HPd.out.p.lt
      have hlt2 := HPd.out.o.lt
      go_region_held3 (fun W => PO W q V S T p (nN V S) pb cp mb cm vb cv (.slice (some ⟨rg, 0, none⟩) vs.length rc) ob 2 a b k on) (first | (with_reducible assumption) | (with_reducible exact PO.below (by assumption) hb1) | (with_reducible exact PO.only (by assumption) (PlayM.tm (St9.pl (Hid.out (by assumption : Hid (St9 w _ ⟨V, S, T, q, p, gb, cap, pb, mb, vb, cp, cm, cv, base⟩ m g mk ts (.slice (some ⟨rg, 0, none⟩) vs.length rc) vs ob 2 a b k on))))) O2) | (with_reducible exact HPd.out))
        (first
          | (go_at_call 14; ((with_reducible refine (lroot_at (St9.pl (Hid.out (by assumption : Hid (St9 w _ ⟨V, S, T, q, p, gb, cap, pb, mb, vb, cp, cm, cv, base⟩ m g mk ts (.slice (some ⟨rg, 0, none⟩) vs.length rc) vs ob 2 a b k on)))) HF.out HVA.out HTA.out _ _ _).mono ?_); rintro e w1 ⟨rfl, hb1⟩; have HSa := Lib.hid ((Hid.out (by assumption : Hid (St9 w _ ⟨V, S, T, q, p, gb, cap, pb, mb, vb, cp, cm, cv, base⟩ m g mk ts (.slice (some ⟨rg, 0, none⟩) vs.length rc) vs ob 2 a b k on))).below hb1); have HLa := Lib.hid (LAd.out.below hb1)))
          | (go_at_call 23; ((with_reducible refine (psplit (St9.pl (Hid.out (by assumption : Hid (St9 w _ ⟨V, S, T, q, p, gb, cap, pb, mb, vb, cp, cm, cv, base⟩ m g mk ts (.slice (some ⟨rg, 0, none⟩) vs.length rc) vs ob 2 a b k on)))) HF.out HTA.out Hk1.out Hk2.out Hm2.out).mono ?_); rintro e w2 ⟨g', ta, tb, rfl, P2, F2, hra, hrb, hpa, hpb, hsa, hsb, O2, h5⟩; have HST8 := Lib.hid (St9.only (Hid.out (by assumption : Hid (St9 w _ ⟨V, S, T, q, p, gb, cap, pb, mb, vb, cp, cm, cv, base⟩ m g mk ts (.slice (some ⟨rg, 0, none⟩) vs.length rc) vs ob 2 a b k on))) HK.out P2 O2); have HF8 := Lib.hid F2; have HRA := Lib.hid hra; have HRB := Lib.hid hrb; have HPA := Lib.hid hpa; have HPB := Lib.hid hpb; have H5 := Lib.hid h5; have HL8 := Lib.hid (HLa.out.onlyT (PlayM.tm (St9.pl (Hid.out (by assumption : Hid (St9 w _ ⟨V, S, T, q, p, gb, cap, pb, mb, vb, cp, cm, cv, base⟩ m g mk ts (.slice (some ⟨rg, 0, none⟩) vs.length rc) vs ob 2 a b k on))))) O2))))
      all_goals
        clear y0 y1 y2 y4 y5 y6 y7 y8 y9 y10 y11 y12 y13 z0 z1 z2 z3 z4 hlt
        clear HPd HSd LAd P2 F2 hra hrb hpa hpb hsa hsb O2 h5 hb1 HSa HLa
        have HMK := Lib.hid HF8.out.hm
        rw [HNA.out, HNN.out] at HRA HRB
        obtain ⟨y0, y1, y2, y4, y5, y6, y7, y8, y9, y10, y11, y12, y13, z0, z1, z2, z3, z4⟩ := hpo _ HST8.out.po
        have hlt := HST8.out.po.p.lt
        go_wp2_with fail
        refine (lwithout HST8.out.pl hts.out).mono ?_
        rintro e w3 ⟨vo, rfl, hRo, hb3⟩
        have HST9 := Lib.hid (HST8.out.below hb3)
        have HRo := Lib.hid (hRo.mono (base' := base) (Nat.le_trans HST8.out.hb HST8.out.be.size))
        have HL9 := Lib.hid (HL8.out.below hb3)
        obtain ⟨ao, co, rfl⟩ := HRo.out.slice
        obtain ⟨no, hno⟩ : ∃ n, (wo i i 0 vs).length = n := ⟨_, rfl⟩
        have HRO9 := Lib.hid (HST9.out.pl.ro.wo i i)
        have HST10 := Lib.hid (HST9.out.rows HK.out HRo.out HRO9.out)
        have HL10 : Hid (LI (w3.setCell ⟨q, 10, none⟩ (.slice ao (wo i i 0 vs).length co)) (.slice (some ⟨rb, off, none⟩) na ca2) ta0.row) := Lib.hid (HL9.out.only (only_set w3 q 10 _) (HL9.out.ne_blk (show Blk w3 q 49 _ from HST9.out.pl.blk) (by decide)) (HL9.out.ne_blk (show Blk w3 q 49 _ from HST9.out.pl.blk) (by decide)))
        rw [hno] at HST10 HL10 HRo ⊢
        clear y0 y1 y2 y4 y5 y6 y7 y8 y9 y10 y11 y12 y13 z0 z1 z2 z3 z4 hlt
        have hfz : w3.frozen? ⟨q, 10, none⟩ = false := Blk.frozen HST9.out.po.p 10
        have hlt := HST9.out.po.p.lt
        obtain ⟨y0, y1, y2, y4, y5, y6, y7, y8, y9, y10, y11, y12, y13, z0, z1, z2, z3, z4⟩ := hpo _ HST9.out.po
        have HNB : Hid (ao.map (·.block) = ao.map (·.block)) := Lib.hid rfl
        clear HST8 HL8 HST9 HL9 hRo hb3 HRO9 hno
        go_wp2_with fail
        generalize w3.setCell ⟨q, 10, none⟩ (.slice ao no co) = W10 at HST10 HL10 ⊢
        clear y0 y1 y2 y4 y5 y6 y7 y8 y9 y10 y11 y12 y13 z0 z1 z2 z3 z4 hlt hfz
        have hn2 : n ≤ ca2 := by omega
        have hn3 : (n : Int) ≤ (ca2 : Int) := by omega
        have hn4 : (n : Int) ≤ (na : Int) := by omega
        have hn5 : (0 : Int) ≤ (n : Int) := by omega
        have L1 : Hid (LI W10 (.slice (some ⟨rb, off, none⟩) n ca2) ta.row) := Lib.hid (by rw [HRA.out]; exact HL10.out.cutTo hn1)
        have L2 := HL10.out.cutFrom (k := n) hn1
        rw [← HRB.out] at L2
        by_cases hvc : ca2 = n
        · rw [if_pos hvc] at L2
          subst hvc
          rw [Nat.sub_self, show na - ca2 = 0 by omega] at L2
          have HL2 := Lib.hid L2
          have HB2 : Hid (bk (.slice (some ⟨rb, off, none⟩) 0 0) ≠ some mb) := Lib.hid (by rw [bk_zero]; simp)
          clear L2
          have HB1 : Hid (bk (.slice (some ⟨rb, off, none⟩) ca2 ca2) ≠ some mb) := Lib.hid (bk_cut MA.out (by omega))
          go_region
          have HSp : Hid (SpRel w ⟨V, S, T, q, p, gb, cap, pb, mb, vb, cp, cm, cv, base⟩ (m + 12 * nN V S + 4) g' mk (wo i i 0 ts) ta tb ob 2 a b k on W10.heap.size (.slice (some ⟨rb, off, none⟩) ca2 ca2) (.slice (some ⟨rb, off, none⟩) 0 0) (.int .i64 0) (W10.alloc (.cells #[(.slice (some ⟨rb, off, none⟩) ca2 ca2), (.slice (some ⟨rb, off, none⟩) 0 0)] 44)).drew) := Lib.hid ⟨0, _, _, _, by omega, rfl, (List.append_nil _).symm, (HST10.out.below ((Below.refl _ _).alloc (Nat.le_refl _) _)).drew, Blk.new _ _ _, (L1.out.alloc _).drew, (HL2.out.alloc _).drew, fun e => by have := (HST10.out.pl.rv.lt _ e).2; omega⟩
          generalize W10.heap.size = pk at HSp ⊢
          generalize (W10.alloc (.cells #[(.slice (some ⟨rb, off, none⟩) ca2 ca2), (.slice (some ⟨rb, off, none⟩) 0 0)] 44)).drew = W11 at HSp ⊢
          clear HST10 HL10 L1 HL2 HRo
          go_wp2_with fail
          go_loopw [149] (fun iv wr => SpRel w ⟨V, S, T, q, p, gb, cap, pb, mb, vb, cp, cm, cv, base⟩ (m + 12 * nN V S + 4) g' mk (wo i i 0 ts) ta tb ob 2 a b k on pk (.slice (some ⟨rb, off, none⟩) ca2 ca2) (.slice (some ⟨rb, off, none⟩) 0 0) iv wr) (fun iv _ => 2 - (intOf iv).toNat)
          case atStart => exact HSp.out
          case round =>
            clear HSp
            obtain ⟨j, ts1, vr1, vs1, hj, rfl, rfl, hS, hP, hL1, hL2, hne⟩ := hrel
            have HS := Lib.hid hS
            have HP := Lib.hid hP
            have HL1 := Lib.hid hL1
            have HL2 := Lib.hid hL2
            obtain ⟨a1, c1, rfl⟩ := hS.pl.rv.slice
            obtain ⟨n1, hn1⟩ : ∃ n, vs1.length = n := ⟨_, rfl⟩
            have HN1 := Lib.hid hn1
            rw [hn1] at HS hne
            have HNE := Lib.hid hne
            have hpo1 := po_rule q V S T p (nN V S) pb cp mb cm vb cv (.slice a1 n1 c1) ob 2 a b k on
            obtain ⟨y0, y1, y2, y4, y5, y6, y7, y8, y9, y10, y11, y12, y13, z0, z1, z2, z3, z4⟩ := hpo1 _ HS.out.po
            have hlt := HS.out.po.p.lt
            have hpk := hP.lt
            clear hS hP hL1 hL2 hne hn1
            by_cases hj2 : j < 2
            · obtain ⟨au, nu, cu, tu, hcu, hlu, hnu, hbu, hpt⟩ : ∃ (au : Option Addr) (nu cu : Nat) (tu : Tp), wr.cell? ⟨pk, j, none⟩ = some (.slice au nu cu) ∧ LI wr (.slice au nu cu) tu.row ∧ tu.row.length = nu ∧ bk (.slice au nu cu) ≠ some mb ∧ partsT ta tb (j + 1) = partsT ta tb j ++ if 0 < tu.row.length then [tu] else [] := by
                rcases (by omega : j = 0 ∨ j = 1) with rfl | rfl
                · obtain ⟨x1, x2, e, _⟩ := HL1.out.shape
                  injection e with e1 e2 e3
                  exact ⟨_, _, _, ta, Blk.cell HP.out 0, HL1.out, e2.symm, HB1.out, partsT_one ta tb⟩
                · obtain ⟨x1, x2, e, _⟩ := HL2.out.shape
                  injection e with e1 e2 e3
                  exact ⟨_, _, _, tb, Blk.cell HP.out 1, HL2.out, e2.symm, HB2.out, partsT_two ta tb⟩
              have HLU := Lib.hid hlu
              have HNU := Lib.hid hnu
              have HBU := Lib.hid hbu
              have HPT := Lib.hid hpt
              clear hlu hnu hbu hpt
              have hji : (j : Int) < 2 := by omega
              by_cases h0 : 0 < nu
              · have h0i : (0 : Int) < (nu : Int) := by omega
                have h9 : (wo i i 0 ts ++ partsT ta tb j).length ≤ (wo i i 0 ts ++ some2 ta tb).length := by
                  rcases (by omega : j = 0 ∨ j = 1) with rfl | rfl
                  · simp [partsT]
                  · simp only [partsT, some2, List.length_append]; omega
                have hcl : vs1.length ≤ 100000 := by
                  have h7 := HS.out.pl.ro.1
                  have h8 := HF8.out.len
                  have h6 := HN.out
                  change _ ≤ nN V S at h8
                  omega
                clear h9
                have hsz : base ≤ wr.heap.size := Nat.le_trans HS.out.hb HS.out.be.size
                clear hj2
                go_wp2_with (at_builtin; go_loud (refine wpList_append_row2 _ rfl _ _ rfl rfl (RowV.alloc HS.out.pl.rv _) (.slice au nu cu) rfl ⟨wr.heap.size, 0, none⟩ 1 rfl (cell_new1 _ _ _) hcl (Nat.le_trans hsz (by simp)) ?_))
                intro v5 w5 hR5 hg5 hat
                have HSA := Lib.hid (HS.out.below ((Below.refl _ _).alloc (Nat.le_refl _) (.cells #[.slice au nu cu] 44)))
                have HRV := Lib.hid HSA.out.pl.rv
                have HQ5 : Hid (PF w5 q V S T p (nN V S) pb cp mb cm vb cv (.slice a1 n1 c1)) := Lib.hid (Blk.grown HSA.out.pl.blk hg5 (HRV.out.ne_blk (show Blk _ q 49 _ from HSA.out.pl.blk) (by decide)))
                have HST5 := Lib.hid (HSA.out.append HK.out hg5 hR5 (HLU.out.alloc _) HBU.out)
                have hpq : pk ≠ q := Blk.ne_ HP.out (show Blk wr q 49 _ from HS.out.pl.blk) (by decide)
                have HP5 := Lib.hid (Blk.far (p := ⟨q, 10, none⟩) (Blk.grown (HP.out.alloc (.cells #[.slice au nu cu] 44)) hg5 HNE.out) hpq v5)
                have hsq := only_set w5 q 10 v5
                have l1 := (HL1.out.alloc (.cells #[.slice au nu cu] 44)).grownBy_ hg5 (HRV.out.ne_li (HL1.out.alloc _))
                have l2 := (HL2.out.alloc (.cells #[.slice au nu cu] 44)).grownBy_ hg5 (HRV.out.ne_li (HL2.out.alloc _))
                have HL15 := Lib.hid (l1.only hsq (l1.ne_blk (show Blk w5 q 49 _ from HQ5.out) (by decide)) (l1.ne_blk (show Blk w5 q 49 _ from HQ5.out) (by decide)))
                have HL25 := Lib.hid (l2.only hsq (l2.ne_blk (show Blk w5 q 49 _ from HQ5.out) (by decide)) (l2.ne_blk (show Blk w5 q 49 _ from HQ5.out) (by decide)))
                have HNE5 : Hid (v5.ownBlock ≠ some pk) := Lib.hid (by
                  rcases hat with e | e
                  · rw [e]; exact HNE.out
                  · rw [e]; intro e2; injection e2 with e2; omega)
                have hfz : w5.frozen? ⟨q, 10, none⟩ = false := Blk.frozen HQ5.out 10
                have hlt5 : q < w5.heap.size := Blk.lt HQ5.out
                have c10 : w5.cell? ⟨q, 10, none⟩ = some (.slice a1 n1 c1) := Blk.cell HQ5.out 10
                obtain ⟨a5, c5, rfl⟩ := hR5.slice
                obtain ⟨n5, hn5'⟩ : ∃ n, (vs1 ++ [Value.slice au nu cu]).length = n := ⟨_, rfl⟩
                rw [hn5'] at HST5 HP5 HL15 HL25 HNE5 ⊢
                clear hpq y0 y1 y2 y4 y5 y6 y7 y8 y9 y10 y11 y12 y13 z0 z1 z2 z3 z4 hlt hR5 hg5 hat hsq l1 l2 hn5' HSA HRV HQ5 HS HP HL1 HL2 HNE hcl
                go_wp2_with fail
                go_roundw
                case rel => exact ⟨j + 1, _, _, _, by omega, by simp, by rw [HPT.out, if_pos (by rw [HNU.out]; exact h0), ← List.append_assoc], HST5.out, HP5.out, HL15.out, HL25.out, HNE5.out⟩
                case measure => simp [intOf]; omega
              · have h0i : ¬ (0 : Int) < (nu : Int) := by omega
                clear hj2
                go_wp2_with fail
                go_roundw
                case rel => exact ⟨j + 1, _, _, _, by omega, by simp, by rw [HPT.out, if_neg (by rw [HNU.out]; exact h0), List.append_nil], HS.out, HP.out, HL1.out, HL2.out, HNE.out⟩
                case measure => simp [intOf]; omega
            · have hj3 : j = 2 := by omega
              subst hj3
              have hji : ¬ ((2 : Nat) : Int) < 2 := by omega
              have hta : ((ta.root : Int) == (ta.root : Int)) = true := beq_self_eq_true _
              have htb : ((tb.root : Int) == (tb.root : Int)) = true := beq_self_eq_true _
              have HY := Lib.hid (HF.out.at HTA.out).2.2.2.2.1
              have HY1 : Hid (∀ y ∈ ta.row, y ≤ nN V S) := Lib.hid fun y hy => (HY.out y (List.mem_of_mem_take (by rw [HRA.out] at hy; exact hy))).2
              have HY2 : Hid (∀ y ∈ tb.row, y ≤ nN V S) := Lib.hid fun y hy => (HY.out y (List.mem_of_mem_drop (by rw [HRB.out] at hy; exact hy))).2
              have HZ1 : Hid (ta.row.length ≤ 100000) := Lib.hid (by rw [HRA.out, List.length_take]; have := HNA.out; have := HLN.out; omega)
              have HZ2 : Hid (tb.row.length ≤ 100000) := Lib.hid (by rw [HRB.out, List.length_drop]; have := HNA.out; have := HLN.out; omega)
              clear hj2 hj
              go_wp2_with fail
              have HPd := Lib.hid HS.out.po.drew
              have HSd := Lib.hid HS.out.drew
              have HL1d := Lib.hid HL1.out.drew
              have HL2d := Lib.hid HL2.out.drew
              clear y0 y1 y2 y4 y5 y6 y7 y8 y9 y10 y11 y12 y13 z0 z1 z2 z3 z4 hlt HS HL1 HL2 HP
              obtain ⟨y0, y1, y2, y4, y5, y6, y7, y8, y9, y10, y11, y12, y13, z0, z1, z2, z3, z4⟩ := hpo1 _ HPd.out
              have hlt := HPd.out.p.lt
              go_region_held3 (fun W => PO W q V S T p (nN V S) pb cp mb cm vb cv (.slice a1 n1 c1) ob 2 a b k on) (first | (with_reducible assumption) | (with_reducible exact PO.below (by assumption) hb1) | (with_reducible exact HPd.out))
                (first
                  | (go_at_call 14; ((with_reducible refine (lroot (t := ta) (v := (.slice (some ⟨rb, off, none⟩) ca2 ca2)) (St9.pl (Hid.out (by assumption : Hid (St9 w _ ⟨V, S, T, q, p, gb, cap, pb, mb, vb, cp, cm, cv, base⟩ (m + 12 * nN V S + 4) g' mk _ _ _ ob 2 a b k on)))) (Hid.out (by assumption : Hid (LI _ (.slice (some ⟨rb, off, none⟩) ca2 ca2) ta.row))) HPA.out HY1.out HZ1.out _ _ _).mono ?_); rintro e w1 ⟨rfl, hb1⟩; have HSa := Lib.hid ((Hid.out (by assumption : Hid (St9 w _ ⟨V, S, T, q, p, gb, cap, pb, mb, vb, cp, cm, cv, base⟩ (m + 12 * nN V S + 4) g' mk _ _ _ ob 2 a b k on))).below hb1); have HLa := Lib.hid ((Hid.out (by assumption : Hid (LI _ (.slice (some ⟨rb, off, none⟩) 0 0) tb.row))).below hb1)))
                  | (go_at_call 14; ((with_reducible refine (lroot (t := tb) (v := (.slice (some ⟨rb, off, none⟩) 0 0)) (St9.pl (Hid.out (by assumption : Hid (St9 w _ ⟨V, S, T, q, p, gb, cap, pb, mb, vb, cp, cm, cv, base⟩ (m + 12 * nN V S + 4) g' mk _ _ _ ob 2 a b k on)))) (Hid.out (by assumption : Hid (LI _ (.slice (some ⟨rb, off, none⟩) 0 0) tb.row))) HPB.out HY2.out HZ2.out _ _ _).mono ?_); rintro e w1 ⟨rfl, hb1⟩; have HSb := Lib.hid ((Hid.out (by assumption : Hid (St9 w _ ⟨V, S, T, q, p, gb, cap, pb, mb, vb, cp, cm, cv, base⟩ (m + 12 * nN V S + 4) g' mk _ _ _ ob 2 a b k on))).below hb1))))
              all_goals
                go_wp2_with fail
                go_ret
                have HS9 := (by assumption : Hid (St9 w _ ⟨V, S, T, q, p, gb, cap, pb, mb, vb, cp, cm, cv, base⟩ (m + 12 * nN V S + 4) g' mk _ _ _ ob 2 a b k on))
                exact ⟨g', mk, _, _, _, rfl, HS9.out.pl.more (by omega), HF8.out, HS9.out.be, H5.out⟩
        · rw [if_neg hvc] at L2
          have HL2 := Lib.hid L2
          have HB2 : Hid (bk (.slice (some ⟨rb, off + n, none⟩) (na - n) (ca2 - n)) ≠ some mb) := Lib.hid (bk_cut MA.out (by omega))
          clear L2
          have HB1 : Hid (bk (.slice (some ⟨rb, off, none⟩) n ca2) ≠ some mb) := Lib.hid (bk_cut MA.out (by omega))
          go_region
          have HSp : Hid (SpRel w ⟨V, S, T, q, p, gb, cap, pb, mb, vb, cp, cm, cv, base⟩ (m + 12 * nN V S + 4) g' mk (wo i i 0 ts) ta tb ob 2 a b k on W10.heap.size (.slice (some ⟨rb, off, none⟩) n ca2) (.slice (some ⟨rb, off + n, none⟩) (na - n) (ca2 - n)) (.int .i64 0) (W10.alloc (.cells #[(.slice (some ⟨rb, off, none⟩) n ca2), (.slice (some ⟨rb, off + n, none⟩) (na - n) (ca2 - n))] 44)).drew) := Lib.hid ⟨0, _, _, _, by omega, rfl, (List.append_nil _).symm, (HST10.out.below ((Below.refl _ _).alloc (Nat.le_refl _) _)).drew, Blk.new _ _ _, (L1.out.alloc _).drew, (HL2.out.alloc _).drew, fun e => by have := (HST10.out.pl.rv.lt _ e).2; omega⟩
          generalize W10.heap.size = pk at HSp ⊢
          generalize (W10.alloc (.cells #[(.slice (some ⟨rb, off, none⟩) n ca2), (.slice (some ⟨rb, off + n, none⟩) (na - n) (ca2 - n))] 44)).drew = W11 at HSp ⊢
          clear HST10 HL10 L1 HL2 HRo
          go_wp2_with fail
          go_loopw [149] (fun iv wr => SpRel w ⟨V, S, T, q, p, gb, cap, pb, mb, vb, cp, cm, cv, base⟩ (m + 12 * nN V S + 4) g' mk (wo i i 0 ts) ta tb ob 2 a b k on pk (.slice (some ⟨rb, off, none⟩) n ca2) (.slice (some ⟨rb, off + n, none⟩) (na - n) (ca2 - n)) iv wr) (fun iv _ => 2 - (intOf iv).toNat)
          case atStart => exact HSp.out
          case round =>
            clear HSp
            obtain ⟨j, ts1, vr1, vs1, hj, rfl, rfl, hS, hP, hL1, hL2, hne⟩ := hrel
            have HS := Lib.hid hS
            have HP := Lib.hid hP
            have HL1 := Lib.hid hL1
            have HL2 := Lib.hid hL2
            obtain ⟨a1, c1, rfl⟩ := hS.pl.rv.slice
            obtain ⟨n1, hn1⟩ : ∃ n, vs1.length = n := ⟨_, rfl⟩
            have HN1 := Lib.hid hn1
            rw [hn1] at HS hne
            have HNE := Lib.hid hne
            have hpo1 := po_rule q V S T p (nN V S) pb cp mb cm vb cv (.slice a1 n1 c1) ob 2 a b k on
            obtain ⟨y0, y1, y2, y4, y5, y6, y7, y8, y9, y10, y11, y12, y13, z0, z1, z2, z3, z4⟩ := hpo1 _ HS.out.po
            have hlt := HS.out.po.p.lt
            have hpk := hP.lt
            clear hS hP hL1 hL2 hne hn1
            by_cases hj2 : j < 2
            · obtain ⟨au, nu, cu, tu, hcu, hlu, hnu, hbu, hpt⟩ : ∃ (au : Option Addr) (nu cu : Nat) (tu : Tp), wr.cell? ⟨pk, j, none⟩ = some (.slice au nu cu) ∧ LI wr (.slice au nu cu) tu.row ∧ tu.row.length = nu ∧ bk (.slice au nu cu) ≠ some mb ∧ partsT ta tb (j + 1) = partsT ta tb j ++ if 0 < tu.row.length then [tu] else [] := by
                rcases (by omega : j = 0 ∨ j = 1) with rfl | rfl
                · obtain ⟨x1, x2, e, _⟩ := HL1.out.shape
                  injection e with e1 e2 e3
                  exact ⟨_, _, _, ta, Blk.cell HP.out 0, HL1.out, e2.symm, HB1.out, partsT_one ta tb⟩
                · obtain ⟨x1, x2, e, _⟩ := HL2.out.shape
                  injection e with e1 e2 e3
                  exact ⟨_, _, _, tb, Blk.cell HP.out 1, HL2.out, e2.symm, HB2.out, partsT_two ta tb⟩
              have HLU := Lib.hid hlu
              have HNU := Lib.hid hnu
              have HBU := Lib.hid hbu
              have HPT := Lib.hid hpt
              clear hlu hnu hbu hpt
              have hji : (j : Int) < 2 := by omega
              by_cases h0 : 0 < nu
              · have h0i : (0 : Int) < (nu : Int) := by omega
                have h9 : (wo i i 0 ts ++ partsT ta tb j).length ≤ (wo i i 0 ts ++ some2 ta tb).length := by
                  rcases (by omega : j = 0 ∨ j = 1) with rfl | rfl
                  · simp [partsT]
                  · simp only [partsT, some2, List.length_append]; omega
                have hcl : vs1.length ≤ 100000 := by
                  have h7 := HS.out.pl.ro.1
                  have h8 := HF8.out.len
                  have h6 := HN.out
                  change _ ≤ nN V S at h8
                  omega
                clear h9
                have hsz : base ≤ wr.heap.size := Nat.le_trans HS.out.hb HS.out.be.size
                clear hj2
                go_wp2_with (at_builtin; go_loud (refine wpList_append_row2 _ rfl _ _ rfl rfl (RowV.alloc HS.out.pl.rv _) (.slice au nu cu) rfl ⟨wr.heap.size, 0, none⟩ 1 rfl (cell_new1 _ _ _) hcl (Nat.le_trans hsz (by simp)) ?_))
                intro v5 w5 hR5 hg5 hat
                have HSA := Lib.hid (HS.out.below ((Below.refl _ _).alloc (Nat.le_refl _) (.cells #[.slice au nu cu] 44)))
                have HRV := Lib.hid HSA.out.pl.rv
                have HQ5 : Hid (PF w5 q V S T p (nN V S) pb cp mb cm vb cv (.slice a1 n1 c1)) := Lib.hid (Blk.grown HSA.out.pl.blk hg5 (HRV.out.ne_blk (show Blk _ q 49 _ from HSA.out.pl.blk) (by decide)))
                have HST5 := Lib.hid (HSA.out.append HK.out hg5 hR5 (HLU.out.alloc _) HBU.out)
                have hpq : pk ≠ q := Blk.ne_ HP.out (show Blk wr q 49 _ from HS.out.pl.blk) (by decide)
                have HP5 := Lib.hid (Blk.far (p := ⟨q, 10, none⟩) (Blk.grown (HP.out.alloc (.cells #[.slice au nu cu] 44)) hg5 HNE.out) hpq v5)
                have hsq := only_set w5 q 10 v5
                have l1 := (HL1.out.alloc (.cells #[.slice au nu cu] 44)).grownBy_ hg5 (HRV.out.ne_li (HL1.out.alloc _))
                have l2 := (HL2.out.alloc (.cells #[.slice au nu cu] 44)).grownBy_ hg5 (HRV.out.ne_li (HL2.out.alloc _))
                have HL15 := Lib.hid (l1.only hsq (l1.ne_blk (show Blk w5 q 49 _ from HQ5.out) (by decide)) (l1.ne_blk (show Blk w5 q 49 _ from HQ5.out) (by decide)))
                have HL25 := Lib.hid (l2.only hsq (l2.ne_blk (show Blk w5 q 49 _ from HQ5.out) (by decide)) (l2.ne_blk (show Blk w5 q 49 _ from HQ5.out) (by decide)))
                have HNE5 : Hid (v5.ownBlock ≠ some pk) := Lib.hid (by
                  rcases hat with e | e
                  · rw [e]; exact HNE.out
                  · rw [e]; intro e2; injection e2 with e2; omega)
                have hfz : w5.frozen? ⟨q, 10, none⟩ = false := Blk.frozen HQ5.out 10
                have hlt5 : q < w5.heap.size := Blk.lt HQ5.out
                have c10 : w5.cell? ⟨q, 10, none⟩ = some (.slice a1 n1 c1) := Blk.cell HQ5.out 10
                obtain ⟨a5, c5, rfl⟩ := hR5.slice
                obtain ⟨n5, hn5'⟩ : ∃ n, (vs1 ++ [Value.slice au nu cu]).length = n := ⟨_, rfl⟩
                rw [hn5'] at HST5 HP5 HL15 HL25 HNE5 ⊢
                clear hpq y0 y1 y2 y4 y5 y6 y7 y8 y9 y10 y11 y12 y13 z0 z1 z2 z3 z4 hlt hR5 hg5 hat hsq l1 l2 hn5' HSA HRV HQ5 HS HP HL1 HL2 HNE hcl
                go_wp2_with fail
                go_roundw
                case rel => exact ⟨j + 1, _, _, _, by omega, by simp, by rw [HPT.out, if_pos (by rw [HNU.out]; exact h0), ← List.append_assoc], HST5.out, HP5.out, HL15.out, HL25.out, HNE5.out⟩
                case measure => simp [intOf]; omega
              · have h0i : ¬ (0 : Int) < (nu : Int) := by omega
                clear hj2
                go_wp2_with fail
                go_roundw
                case rel => exact ⟨j + 1, _, _, _, by omega, by simp, by rw [HPT.out, if_neg (by rw [HNU.out]; exact h0), List.append_nil], HS.out, HP.out, HL1.out, HL2.out, HNE.out⟩
                case measure => simp [intOf]; omega
            · have hj3 : j = 2 := by omega
              subst hj3
              have hji : ¬ ((2 : Nat) : Int) < 2 := by omega
              have hta : ((ta.root : Int) == (ta.root : Int)) = true := beq_self_eq_true _
              have htb : ((tb.root : Int) == (tb.root : Int)) = true := beq_self_eq_true _
              have HY := Lib.hid (HF.out.at HTA.out).2.2.2.2.1
              have HY1 : Hid (∀ y ∈ ta.row, y ≤ nN V S) := Lib.hid fun y hy => (HY.out y (List.mem_of_mem_take (by rw [HRA.out] at hy; exact hy))).2
              have HY2 : Hid (∀ y ∈ tb.row, y ≤ nN V S) := Lib.hid fun y hy => (HY.out y (List.mem_of_mem_drop (by rw [HRB.out] at hy; exact hy))).2
              have HZ1 : Hid (ta.row.length ≤ 100000) := Lib.hid (by rw [HRA.out, List.length_take]; have := HNA.out; have := HLN.out; omega)
              have HZ2 : Hid (tb.row.length ≤ 100000) := Lib.hid (by rw [HRB.out, List.length_drop]; have := HNA.out; have := HLN.out; omega)
              clear hj2 hj
              go_wp2_with fail
              have HPd := Lib.hid HS.out.po.drew
              have HSd := Lib.hid HS.out.drew
              have HL1d := Lib.hid HL1.out.drew
              have HL2d := Lib.hid HL2.out.drew
              clear y0 y1 y2 y4 y5 y6 y7 y8 y9 y10 y11 y12 y13 z0 z1 z2 z3 z4 hlt HS HL1 HL2 HP
              obtain ⟨y0, y1, y2, y4, y5, y6, y7, y8, y9, y10, y11, y12, y13, z0, z1, z2, z3, z4⟩ := hpo1 _ HPd.out
              have hlt := HPd.out.p.lt
              go_region_held3 (fun W => PO W q V S T p (nN V S) pb cp mb cm vb cv (.slice a1 n1 c1) ob 2 a b k on) (first | (with_reducible assumption) | (with_reducible exact PO.below (by assumption) hb1) | (with_reducible exact HPd.out))
                (first
                  | (go_at_call 14; ((with_reducible refine (lroot (t := ta) (v := (.slice (some ⟨rb, off, none⟩) n ca2)) (St9.pl (Hid.out (by assumption : Hid (St9 w _ ⟨V, S, T, q, p, gb, cap, pb, mb, vb, cp, cm, cv, base⟩ (m + 12 * nN V S + 4) g' mk _ _ _ ob 2 a b k on)))) (Hid.out (by assumption : Hid (LI _ (.slice (some ⟨rb, off, none⟩) n ca2) ta.row))) HPA.out HY1.out HZ1.out _ _ _).mono ?_); rintro e w1 ⟨rfl, hb1⟩; have HSa := Lib.hid ((Hid.out (by assumption : Hid (St9 w _ ⟨V, S, T, q, p, gb, cap, pb, mb, vb, cp, cm, cv, base⟩ (m + 12 * nN V S + 4) g' mk _ _ _ ob 2 a b k on))).below hb1); have HLa := Lib.hid ((Hid.out (by assumption : Hid (LI _ (.slice (some ⟨rb, off + n, none⟩) (na - n) (ca2 - n)) tb.row))).below hb1)))
                  | (go_at_call 14; ((with_reducible refine (lroot (t := tb) (v := (.slice (some ⟨rb, off + n, none⟩) (na - n) (ca2 - n))) (St9.pl (Hid.out (by assumption : Hid (St9 w _ ⟨V, S, T, q, p, gb, cap, pb, mb, vb, cp, cm, cv, base⟩ (m + 12 * nN V S + 4) g' mk _ _ _ ob 2 a b k on)))) (Hid.out (by assumption : Hid (LI _ (.slice (some ⟨rb, off + n, none⟩) (na - n) (ca2 - n)) tb.row))) HPB.out HY2.out HZ2.out _ _ _).mono ?_); rintro e w1 ⟨rfl, hb1⟩; have HSb := Lib.hid ((Hid.out (by assumption : Hid (St9 w _ ⟨V, S, T, q, p, gb, cap, pb, mb, vb, cp, cm, cv, base⟩ (m + 12 * nN V S + 4) g' mk _ _ _ ob 2 a b k on))).below hb1))))
              all_goals
                go_wp2_with fail
                go_ret
                have HS9 := (by assumption : Hid (St9 w _ ⟨V, S, T, q, p, gb, cap, pb, mb, vb, cp, cm, cv, base⟩ (m + 12 * nN V S + 4) g' mk _ _ _ ob 2 a b k on))
                exact ⟨g', mk, _, _, _, rfl, HS9.out.pl.more (by omega), HF8.out, HS9.out.be, H5.out⟩

end

end Go.Proofs.Ytgafnomfdnbblaa

/- The law's step. Printed by wip/tools/trqe.py. -/
namespace Go.Proofs.Ytgafnomfdnbblaa
open Go.RowKit

set_option maxRecDepth 100000

section
variable {w : World} {V S T : Int} {q p gb cap pb mb vb cp cm cv base m : Nat} {g : Mg9} {mk : Nat → Nat} {ts : List Tp} {vr : Value} {vs : List Value} {kd a b k : Int} {on : Bool}
set_option maxHeartbeats 8000000 in
theorem step3 (h : PlayM w ⟨V, S, T, q, p, gb, cap, pb, mb, vb, cp, cm, cv, base⟩ m g mk ts vr vs) (hF : FI V S g mk ts) (hK : KOk ⟨V, S, T, q, p, gb, cap, pb, mb, vb, cp, cm, cv, base⟩) (ha : a ≤ 9223372036854775807) (hb : b ≤ 9223372036854775807) (hk1 : -9223372036854775808 ≤ k) (hk2 : k ≤ 9223372036854775807) (hm : m ≤ 950000) :
    Calls Try.prog 12 #[.pointer (some ⟨q, 0, none⟩), .agg #[.int .i64 3, .int .i64 a, .int .i64 b, .int .i64 k, .bool on]] w (StepD ⟨V, S, T, q, p, gb, cap, pb, mb, vb, cp, cm, cv, base⟩ (m + 12 * nN V S + 7) g w) := by
  have HST0 := Lib.hid (St9.new h hK (3) a b k on)
  have HF := Lib.hid hF
  have HK := Lib.hid hK
  have HN := Lib.hid (nN_le (V := V) (S := S) (T := T) h.tm.hR)
  have hts : Hid (ts.length ≤ 100000) := Lib.hid (by have := hF.len; have := HN.out; omega)
  have Ha := Lib.hid ha
  have Hb := Lib.hid hb
  have Hk1 := Lib.hid hk1
  have Hk2 := Lib.hid hk2
  have Hm := Lib.hid hm
  have hqlt := Blk.lt h.blk
  change q < w.heap.size at hqlt
  clear h hF hK ha hb hk1 hk2 hm
  go_enter Try.func12, Try.ntmps12
  go_wp2_with fail
  generalize hob : w.heap.size = ob at HST0 ⊢
  generalize w.alloc (.cells #[.int .i64 3, .int .i64 a, .int .i64 b, .int .i64 k, .bool on] 33) = W0 at HST0 ⊢
  have hpo := po_rule q V S T p (nN V S) pb cp mb cm vb cv vr ob (3) a b k on
  have HPd := Lib.hid HST0.out.po.drew
  have HSd := Lib.hid HST0.out.drew
  obtain ⟨y0, y1, y2, y4, y5, y6, y7, y8, y9, y10, y11, y12, y13, z0, z1, z2, z3, z4⟩ := hpo _ HPd.out
  have hlt := HPd.out.p.lt
  have hlt2 := HPd.out.o.lt
  go_region_held3 (fun W => PO W q V S T p (nN V S) pb cp mb cm vb cv vr ob (3) a b k on) (first | (with_reducible assumption) | (with_reducible exact PO.below (by assumption) hb1) | (with_reducible exact HPd.out))
    (first
      | (go_at_call 22; ((with_reducible refine (lrow (x := a) (St9.pl (Hid.out (by assumption : Hid (St9 _ _ ⟨V, S, T, q, p, gb, cap, pb, mb, vb, cp, cm, cv, base⟩ m g mk ts vr vs ob (3) a b k on)))) hts.out Ha.out).mono ?_); rintro e w1 ⟨rfl, hb1⟩; have HSa := Lib.hid ((Hid.out (by assumption : Hid (St9 _ _ ⟨V, S, T, q, p, gb, cap, pb, mb, vb, cp, cm, cv, base⟩ m g mk ts vr vs ob (3) a b k on))).below hb1)))
      | (go_at_call 22; ((with_reducible refine (lrow (x := b) (St9.pl (Hid.out (by assumption : Hid (St9 _ _ ⟨V, S, T, q, p, gb, cap, pb, mb, vb, cp, cm, cv, base⟩ m g mk ts vr vs ob (3) a b k on)))) hts.out Hb.out).mono ?_); rintro e w1 ⟨rfl, hb1⟩; have HSb := Lib.hid ((Hid.out (by assumption : Hid (St9 _ _ ⟨V, S, T, q, p, gb, cap, pb, mb, vb, cp, cm, cv, base⟩ m g mk ts vr vs ob (3) a b k on))).below hb1))))
  all_goals
    have HST : Hid (St9 w _ ⟨V, S, T, q, p, gb, cap, pb, mb, vb, cp, cm, cv, base⟩ m g mk ts vr vs ob (3) a b k on) := Lib.hid (Hid.out (by assumption : Hid (St9 w _ ⟨V, S, T, q, p, gb, cap, pb, mb, vb, cp, cm, cv, base⟩ m g mk ts vr vs ob (3) a b k on)))
    obtain ⟨I, hI⟩ : ∃ I, rowF a ts.length = I := ⟨_, rfl⟩
    obtain ⟨J, hJ⟩ : ∃ J, rowF b ts.length = J := ⟨_, rfl⟩
    have HI := Lib.hid hI
    have HJ := Lib.hid hJ
    rw [hI, hJ]
    clear hI hJ HST0 HPd HSd HSa HSb hb1 y0 y1 y2 y4 y5 y6 y7 y8 y9 y10 y11 y12 y13 z0 z1 z2 z3 z4 hlt hlt2
    obtain ⟨y0, y1, y2, y4, y5, y6, y7, y8, y9, y10, y11, y12, y13, z0, z1, z2, z3, z4⟩ := hpo _ HST.out.po
    have hlt := (HST.out.po).p.lt
    have hlt2 := (HST.out.po).o.lt
    have HNI := Lib.hid (nN_int HST.out.pl.tm.hR)
    have HNP : Hid (1 ≤ nN V S) := Lib.hid (nN_pos HST.out.pl.tm.hR)
    have HRR : Hid (Rt V S T) := Lib.hid HST.out.pl.tm.hR
    obtain ⟨A9, hA9⟩ : ∃ A9 : Nat, (if 0 ≤ a then a else 0) = (A9 : Int) := ⟨(if 0 ≤ a then a else 0).toNat, by split <;> omega⟩
    have HA9 := Lib.hid hA9
    have hA9b : (A9 : Int) ≤ 9223372036854775807 := by rw [← hA9]; split; exact Ha.out; omega
    obtain ⟨x, hx⟩ : ∃ x, A9 % nN V S + 1 = x := ⟨_, rfl⟩
    have HX := Lib.hid hx
    have HX2 : Hid (x ≠ 0 ∧ x ≤ nN V S) := Lib.hid (by have := Nat.mod_lt A9 HNP.out; omega)
    clear hx hA9
    go_upto_region 26 with fail
    go_cut [17, 18] from 193 to 205 (fun s t wx => s = .int .i64 (x : Int) ∧ t = .int .i64 (k % 2) ∧ St9 w wx ⟨V, S, T, q, p, gb, cap, pb, mb, vb, cp, cm, cv, base⟩ m g mk ts vr vs ob 3 a b k on)
    case first =>
      have hand : bits .and .i64 k 1 = k % 2 := and1_i64 k
      have htm : (A9 : Int).tmod (nd V S) = ((A9 % nN V S : Nat) : Int) := by rw [← HNI.out]; exact Int.ofNat_tmod A9 (nN V S)
      have hn0 : ¬ nd V S = 0 := by have h1 : ((nN V S : Nat) : Int) = nd V S := HNI.out; have h2 : 1 ≤ nN V S := HNP.out; omega
      have hxI : 1 + ((A9 % nN V S : Nat) : Int) = (x : Int) := by have := HX.out; omega
      have hxw : IntKind.i64.wrap (x : Int) = (x : Int) := IntWalk.i64_in _ (by have := HX2.out; have := HN.out; omega)
      have hrw : IntKind.i64.wrap ((A9 % nN V S : Nat) : Int) = ((A9 % nN V S : Nat) : Int) := IntWalk.i64_in _ (by have := Nat.mod_lt A9 HNP.out; have := HN.out; omega)
      have HXW : Hid (IntKind.i64.wrap (1 + (A9 : Int) % ((nN V S : Nat) : Int)) = (x : Int)) := Lib.hid (by rw [← Int.natCast_emod, hxI]; exact hxw)
      have HPd := Lib.hid HST.out.po.drew
      have HSd := Lib.hid HST.out.drew
      clear y0 y1 y2 y4 y5 y6 y7 y8 y9 y10 y11 y12 y13 z0 z1 z2 z3 z4 hlt
      obtain ⟨y0, y1, y2, y4, y5, y6, y7, y8, y9, y10, y11, y12, y13, z0, z1, z2, z3, z4⟩ := hpo _ HPd.out
      have hlt := HPd.out.p.lt
      have hlt2 := HPd.out.o.lt
      rcases Int.lt_or_le a 0 with g1 | g1
      · have h0m : (0 : Int).tmod (nd V S) = 0 := Int.zero_tmod _
        have hx1 : x = 1 := by
          have e := HA9.out
          rw [if_neg (by omega)] at e
          have e2 : A9 = 0 := by omega
          have := HX.out
          rw [e2, Nat.zero_mod] at this
          omega
        have HX1 := Lib.hid hx1
        clear hx1 htm hxI hxw hrw hA9b
        go_region_held3 (fun W => PO W q V S T p (nN V S) pb cp mb cm vb cv vr ob 3 a b k on) (first | (with_reducible assumption) | (with_reducible exact PO.below (by assumption) hb1) | (with_reducible exact HPd.out))
          (first
            | (go_at_call 30; ((with_reducible refine (nodes_yes V S T HRR.out _).mono ?_); rintro e w1 ⟨rfl, hb1⟩; have HSa := Lib.hid ((Hid.out (by assumption : Hid (St9 w _ ⟨V, S, T, q, p, gb, cap, pb, mb, vb, cp, cm, cv, base⟩ m g mk ts vr vs ob 3 a b k on))).below hb1))))
        all_goals
          go_wp2_with fail
          go_meet
          exact ⟨by rw [HX1.out]; rfl, rfl, Hid.out (by assumption : Hid (St9 w _ ⟨V, S, T, q, p, gb, cap, pb, mb, vb, cp, cm, cv, base⟩ m g mk ts vr vs ob 3 a b k on))⟩
      · have ea : a = (A9 : Int) := by
          have e := HA9.out
          rw [if_pos g1] at e; exact e
        subst ea
        have g2 : ¬ (A9 : Int) < 0 := by omega
        go_region_held3 (fun W => PO W q V S T p (nN V S) pb cp mb cm vb cv vr ob 3 (A9 : Int) b k on) (first | (with_reducible assumption) | (with_reducible exact PO.below (by assumption) hb1) | (with_reducible exact HPd.out))
          (first
            | (go_at_call 30; ((with_reducible refine (nodes_yes V S T HRR.out _).mono ?_); rintro e w1 ⟨rfl, hb1⟩; have HSa := Lib.hid ((Hid.out (by assumption : Hid (St9 w _ ⟨V, S, T, q, p, gb, cap, pb, mb, vb, cp, cm, cv, base⟩ m g mk ts vr vs ob 3 (A9 : Int) b k on))).below hb1))))
        all_goals
          go_wp2_with fail
          go_meet
          exact ⟨congrArg (Value.int .i64) HXW.out, rfl, Hid.out (by assumption : Hid (St9 w _ ⟨V, S, T, q, p, gb, cap, pb, mb, vb, cp, cm, cv, base⟩ m g mk ts vr vs ob 3 (A9 : Int) b k on))⟩
    case rest =>
      obtain ⟨rfl, rfl, hSc⟩ := hcut
      have HSc := Lib.hid hSc
      have HPc := Lib.hid hSc.po
      clear hSc HST y0 y1 y2 y4 y5 y6 y7 y8 y9 y10 y11 y12 y13 z0 z1 z2 z3 z4 hlt
      obtain ⟨y0, y1, y2, y4, y5, y6, y7, y8, y9, y10, y11, y12, y13, z0, z1, z2, z3, z4⟩ := hpo _ HPc.out
      have hlt := HPc.out.p.lt
      have hlt2 := HPc.out.o.lt
      rcases (by omega : k % 2 = 0 ∨ k % 2 = 1) with e2 | e2
      · rw [e2]
        clear e2
        go_wp2_with fail
        have Hm2 : Hid (m ≤ 960000) := Lib.hid (by have := Hm.out; omega)
        have HPd := Lib.hid HPc.out.drew
        have HSd := Lib.hid HSc.out.drew
        clear y0 y1 y2 y4 y5 y6 y7 y8 y9 y10 y11 y12 y13 z0 z1 z2 z3 z4 hlt hlt2 HPc HSc
        obtain ⟨y0, y1, y2, y4, y5, y6, y7, y8, y9, y10, y11, y12, y13, z0, z1, z2, z3, z4⟩ := hpo _ HPd.out
        have hlt := HPd.out.p.lt
        have hlt2 := HPd.out.o.lt
        go_region_held3 (fun W => PO W q V S T p (nN V S) pb cp mb cm vb cv vr ob 3 a b k on) (first | (with_reducible assumption) | (with_reducible exact PO.below (by assumption) hb1) | (with_reducible exact PO.only (by assumption) (PlayM.tm (St9.pl (Hid.out (by assumption : Hid (St9 w _ ⟨V, S, T, q, p, gb, cap, pb, mb, vb, cp, cm, cv, base⟩ m g mk ts vr vs ob 3 a b k on))))) O2) | (with_reducible exact HPd.out))
          (first
            | (go_at_call 25; ((with_reducible refine (pmarkI (kI := 0) (k := 0) (x := x) rfl (St9.pl (Hid.out (by assumption : Hid (St9 w _ ⟨V, S, T, q, p, gb, cap, pb, mb, vb, cp, cm, cv, base⟩ m g mk ts vr vs ob 3 a b k on)))) HF.out HX2.out.1 HX2.out.2 (by decide) Hm2.out).mono ?_); rintro e w2 ⟨g', rfl, A2, h5, F2, O2⟩; have HST2 := Lib.hid (St9.only (Hid.out (by assumption : Hid (St9 w _ ⟨V, S, T, q, p, gb, cap, pb, mb, vb, cp, cm, cv, base⟩ m g mk ts vr vs ob 3 a b k on))) HK.out (PlayM.step (St9.pl (Hid.out (by assumption : Hid (St9 w _ ⟨V, S, T, q, p, gb, cap, pb, mb, vb, cp, cm, cv, base⟩ m g mk ts vr vs ob 3 a b k on)))) A2 O2 h5) O2); have HF2 := Lib.hid F2; have H5 := Lib.hid h5)))
        all_goals
          clear y0 y1 y2 y4 y5 y6 y7 y8 y9 y10 y11 y12 y13 z0 z1 z2 z3 z4 hlt hlt2
          clear HPd HSd A2 O2 h5 F2
          have hx1 := HX2.out.2
          have hx0 : (0 : Int) ≤ (x : Int) := by omega
          have hx2 : (x : Int) < (nN V S : Int) + 1 := by omega
          obtain ⟨y0, y1, y2, y4, y5, y6, y7, y8, y9, y10, y11, y12, y13, z0, z1, z2, z3, z4⟩ := hpo _ HST2.out.po
          have hlt := HST2.out.po.p.lt
          have hlt2 := HST2.out.po.o.lt
          have hcm : w2.cell? ⟨mb, x, none⟩ = some (.int .i64 (mk x : Int)) := HST2.out.pl.fs.m.cell hx1
          have hfm : w2.frozen? ⟨mb, x, none⟩ = false := by obtain ⟨zs, hz, _⟩ := HST2.out.pl.fs.m; exact hz.frozen x
          have hml : mb < w2.heap.size := HST2.out.pl.fs.m.lt
          have hmk := HF.out.hm x
          have hbt : ((bt 0 : Nat) : Int) = 1 := rfl
          have han : bits .andNot .i64 (mk x : Int) 1 = (setB (mk x) 0 false : Int) := by rw [← hbt]; exact andNot_i64 hmk (by decide)
          have HFR : Hid (∀ m0, mkSet mk m0 0 on = fun y => if y = m0 then setB (mk m0) 0 on else mk y) := Lib.hid fun _ => rfl
          clear hbt
          go_wp2_with fail
          go_region
          have HST3 := Lib.hid ((HST2.out.mark (v := setB (mk x) 0 false) HK.out hx1).drew)
          generalize (w2.setCell ⟨mb, x, none⟩ (.int .i64 (setB (mk x) 0 false : Int))).drew = W3 at HST3 ⊢
          have horb : bits .or .i64 (setB (mk x) 0 false : Int) 1 = (setB (mk x) 0 true : Int) := orB_i64 (k := 0) hmk (by decide)
          have hcm3 : W3.cell? ⟨mb, x, none⟩ = some (.int .i64 (setB (mk x) 0 false : Int)) := by
            have := HST3.out.pl.fs.m.cell hx1
            rw [if_pos rfl] at this; exact this
          have hfm3 : W3.frozen? ⟨mb, x, none⟩ = false := by obtain ⟨zs, hz, _⟩ := HST3.out.pl.fs.m; exact hz.frozen x
          have hml3 : mb < W3.heap.size := HST3.out.pl.fs.m.lt
          clear y0 y1 y2 y4 y5 y6 y7 y8 y9 y10 y11 y12 y13 z0 z1 z2 z3 z4 hlt hlt2 HST2 hcm hfm hml han
          obtain ⟨y0, y1, y2, y4, y5, y6, y7, y8, y9, y10, y11, y12, y13, z0, z1, z2, z3, z4⟩ := hpo _ HST3.out.po
          have hlt := HST3.out.po.p.lt
          have hlt2 := HST3.out.po.o.lt
          have HX1 := Lib.hid hx1
          clear hmk
          rcases Bool.eq_false_or_eq_true on with e3 | e3
          · subst e3
            go_wp2_with fail
            go_region
            have HST4 := Lib.hid ((HST3.out.mark (v := setB (mk x) 0 true) HK.out HX1.out).drew)
            have HMM : Hid ((fun y => if y = x then setB (mk x) 0 true else if y = x then setB (mk x) 0 false else mk y) = mkSet mk x 0 true) := Lib.hid (by
              funext y
              unfold mkSet
              split <;> rfl)
            rw [HMM.out] at HST4
            go_wp2_with fail
            go_ret
            exact ⟨g', _, _, _, _, rfl, HST4.out.pl.more (by omega), HF2.out, HST4.out.be, H5.out⟩
          · subst e3
            go_wp2_with fail
            go_ret
            exact ⟨g', _, _, _, _, rfl, HST3.out.pl.more (by omega), HF2.out, HST3.out.be, H5.out⟩
      · rw [e2]
        clear e2
        go_wp2_with fail
        have Hm2 : Hid (m ≤ 960000) := Lib.hid (by have := Hm.out; omega)
        have HPd := Lib.hid HPc.out.drew
        have HSd := Lib.hid HSc.out.drew
        clear y0 y1 y2 y4 y5 y6 y7 y8 y9 y10 y11 y12 y13 z0 z1 z2 z3 z4 hlt hlt2 HPc HSc
        obtain ⟨y0, y1, y2, y4, y5, y6, y7, y8, y9, y10, y11, y12, y13, z0, z1, z2, z3, z4⟩ := hpo _ HPd.out
        have hlt := HPd.out.p.lt
        have hlt2 := HPd.out.o.lt
        go_region_held3 (fun W => PO W q V S T p (nN V S) pb cp mb cm vb cv vr ob 3 a b k on) (first | (with_reducible assumption) | (with_reducible exact PO.below (by assumption) hb1) | (with_reducible exact PO.only (by assumption) (PlayM.tm (St9.pl (Hid.out (by assumption : Hid (St9 w _ ⟨V, S, T, q, p, gb, cap, pb, mb, vb, cp, cm, cv, base⟩ m g mk ts vr vs ob 3 a b k on))))) O2) | (with_reducible exact HPd.out))
          (first
            | (go_at_call 25; ((with_reducible refine (pmarkI (kI := 1) (k := 1) (x := x) rfl (St9.pl (Hid.out (by assumption : Hid (St9 w _ ⟨V, S, T, q, p, gb, cap, pb, mb, vb, cp, cm, cv, base⟩ m g mk ts vr vs ob 3 a b k on)))) HF.out HX2.out.1 HX2.out.2 (by decide) Hm2.out).mono ?_); rintro e w2 ⟨g', rfl, A2, h5, F2, O2⟩; have HST2 := Lib.hid (St9.only (Hid.out (by assumption : Hid (St9 w _ ⟨V, S, T, q, p, gb, cap, pb, mb, vb, cp, cm, cv, base⟩ m g mk ts vr vs ob 3 a b k on))) HK.out (PlayM.step (St9.pl (Hid.out (by assumption : Hid (St9 w _ ⟨V, S, T, q, p, gb, cap, pb, mb, vb, cp, cm, cv, base⟩ m g mk ts vr vs ob 3 a b k on)))) A2 O2 h5) O2); have HF2 := Lib.hid F2; have H5 := Lib.hid h5)))
        all_goals
          clear y0 y1 y2 y4 y5 y6 y7 y8 y9 y10 y11 y12 y13 z0 z1 z2 z3 z4 hlt hlt2
          clear HPd HSd A2 O2 h5 F2
          have hx1 := HX2.out.2
          have hx0 : (0 : Int) ≤ (x : Int) := by omega
          have hx2 : (x : Int) < (nN V S : Int) + 1 := by omega
          obtain ⟨y0, y1, y2, y4, y5, y6, y7, y8, y9, y10, y11, y12, y13, z0, z1, z2, z3, z4⟩ := hpo _ HST2.out.po
          have hlt := HST2.out.po.p.lt
          have hlt2 := HST2.out.po.o.lt
          have hcm : w2.cell? ⟨mb, x, none⟩ = some (.int .i64 (mk x : Int)) := HST2.out.pl.fs.m.cell hx1
          have hfm : w2.frozen? ⟨mb, x, none⟩ = false := by obtain ⟨zs, hz, _⟩ := HST2.out.pl.fs.m; exact hz.frozen x
          have hml : mb < w2.heap.size := HST2.out.pl.fs.m.lt
          have hmk := HF.out.hm x
          have hbt : ((bt 1 : Nat) : Int) = 2 := rfl
          have han : bits .andNot .i64 (mk x : Int) 2 = (setB (mk x) 1 false : Int) := by rw [← hbt]; exact andNot_i64 hmk (by decide)
          have HFR : Hid (∀ m0, mkSet mk m0 1 on = fun y => if y = m0 then setB (mk m0) 1 on else mk y) := Lib.hid fun _ => rfl
          clear hbt
          go_wp2_with fail
          go_region
          have HST3 := Lib.hid ((HST2.out.mark (v := setB (mk x) 1 false) HK.out hx1).drew)
          generalize (w2.setCell ⟨mb, x, none⟩ (.int .i64 (setB (mk x) 1 false : Int))).drew = W3 at HST3 ⊢
          have horb : bits .or .i64 (setB (mk x) 1 false : Int) 2 = (setB (mk x) 1 true : Int) := orB_i64 (k := 1) hmk (by decide)
          have hcm3 : W3.cell? ⟨mb, x, none⟩ = some (.int .i64 (setB (mk x) 1 false : Int)) := by
            have := HST3.out.pl.fs.m.cell hx1
            rw [if_pos rfl] at this; exact this
          have hfm3 : W3.frozen? ⟨mb, x, none⟩ = false := by obtain ⟨zs, hz, _⟩ := HST3.out.pl.fs.m; exact hz.frozen x
          have hml3 : mb < W3.heap.size := HST3.out.pl.fs.m.lt
          clear y0 y1 y2 y4 y5 y6 y7 y8 y9 y10 y11 y12 y13 z0 z1 z2 z3 z4 hlt hlt2 HST2 hcm hfm hml han
          obtain ⟨y0, y1, y2, y4, y5, y6, y7, y8, y9, y10, y11, y12, y13, z0, z1, z2, z3, z4⟩ := hpo _ HST3.out.po
          have hlt := HST3.out.po.p.lt
          have hlt2 := HST3.out.po.o.lt
          have HX1 := Lib.hid hx1
          clear hmk
          rcases Bool.eq_false_or_eq_true on with e3 | e3
          · subst e3
            go_wp2_with fail
            go_region
            have HST4 := Lib.hid ((HST3.out.mark (v := setB (mk x) 1 true) HK.out HX1.out).drew)
            have HMM : Hid ((fun y => if y = x then setB (mk x) 1 true else if y = x then setB (mk x) 1 false else mk y) = mkSet mk x 1 true) := Lib.hid (by
              funext y
              unfold mkSet
              split <;> rfl)
            rw [HMM.out] at HST4
            go_wp2_with fail
            go_ret
            exact ⟨g', _, _, _, _, rfl, HST4.out.pl.more (by omega), HF2.out, HST4.out.be, H5.out⟩
          · subst e3
            go_wp2_with fail
            go_ret
            exact ⟨g', _, _, _, _, rfl, HST3.out.pl.more (by omega), HF2.out, HST3.out.be, H5.out⟩

end

end Go.Proofs.Ytgafnomfdnbblaa

/- The law's step. Printed by wip/tools/trqe.py. -/
namespace Go.Proofs.Ytgafnomfdnbblaa
open Go.RowKit

set_option maxRecDepth 100000

section
variable {w : World} {V S T : Int} {q p gb cap pb mb vb cp cm cv base m : Nat} {g : Mg9} {mk : Nat → Nat} {ts : List Tp} {vr : Value} {vs : List Value} {kd a b k : Int} {on : Bool}
set_option maxHeartbeats 8000000 in
theorem step0 (h : PlayM w ⟨V, S, T, q, p, gb, cap, pb, mb, vb, cp, cm, cv, base⟩ m g mk ts vr vs) (hF : FI V S g mk ts) (hK : KOk ⟨V, S, T, q, p, gb, cap, pb, mb, vb, cp, cm, cv, base⟩) (ha : a ≤ 9223372036854775807) (hb : b ≤ 9223372036854775807) (hk1 : -9223372036854775808 ≤ k) (hk2 : k ≤ 9223372036854775807) (hm : m ≤ 950000) (h1 : kd ≠ 1) (h2 : kd ≠ 2) (h3 : kd ≠ 3) :
    Calls Try.prog 12 #[.pointer (some ⟨q, 0, none⟩), .agg #[.int .i64 kd, .int .i64 a, .int .i64 b, .int .i64 k, .bool on]] w (StepD ⟨V, S, T, q, p, gb, cap, pb, mb, vb, cp, cm, cv, base⟩ (m + 12 * nN V S + 7) g w) := by
  have HST0 := Lib.hid (St9.new h hK (kd) a b k on)
  have HF := Lib.hid hF
  have HK := Lib.hid hK
  have HN := Lib.hid (nN_le (V := V) (S := S) (T := T) h.tm.hR)
  have hts : Hid (ts.length ≤ 100000) := Lib.hid (by have := hF.len; have := HN.out; omega)
  have Ha := Lib.hid ha
  have Hb := Lib.hid hb
  have Hk1 := Lib.hid hk1
  have Hk2 := Lib.hid hk2
  have Hm := Lib.hid hm
  have hqlt := Blk.lt h.blk
  change q < w.heap.size at hqlt
  clear h hF hK ha hb hk1 hk2 hm
  go_enter Try.func12, Try.ntmps12
  go_wp2_with fail
  generalize hob : w.heap.size = ob at HST0 ⊢
  generalize w.alloc (.cells #[.int .i64 kd, .int .i64 a, .int .i64 b, .int .i64 k, .bool on] 33) = W0 at HST0 ⊢
  have hpo := po_rule q V S T p (nN V S) pb cp mb cm vb cv vr ob (kd) a b k on
  have HPd := Lib.hid HST0.out.po.drew
  have HSd := Lib.hid HST0.out.drew
  obtain ⟨y0, y1, y2, y4, y5, y6, y7, y8, y9, y10, y11, y12, y13, z0, z1, z2, z3, z4⟩ := hpo _ HPd.out
  have hlt := HPd.out.p.lt
  have hlt2 := HPd.out.o.lt
  go_region_held3 (fun W => PO W q V S T p (nN V S) pb cp mb cm vb cv vr ob (kd) a b k on) (first | (with_reducible assumption) | (with_reducible exact PO.below (by assumption) hb1) | (with_reducible exact HPd.out))
    (first
      | (go_at_call 22; ((with_reducible refine (lrow (x := a) (St9.pl (Hid.out (by assumption : Hid (St9 _ _ ⟨V, S, T, q, p, gb, cap, pb, mb, vb, cp, cm, cv, base⟩ m g mk ts vr vs ob (kd) a b k on)))) hts.out Ha.out).mono ?_); rintro e w1 ⟨rfl, hb1⟩; have HSa := Lib.hid ((Hid.out (by assumption : Hid (St9 _ _ ⟨V, S, T, q, p, gb, cap, pb, mb, vb, cp, cm, cv, base⟩ m g mk ts vr vs ob (kd) a b k on))).below hb1)))
      | (go_at_call 22; ((with_reducible refine (lrow (x := b) (St9.pl (Hid.out (by assumption : Hid (St9 _ _ ⟨V, S, T, q, p, gb, cap, pb, mb, vb, cp, cm, cv, base⟩ m g mk ts vr vs ob (kd) a b k on)))) hts.out Hb.out).mono ?_); rintro e w1 ⟨rfl, hb1⟩; have HSb := Lib.hid ((Hid.out (by assumption : Hid (St9 _ _ ⟨V, S, T, q, p, gb, cap, pb, mb, vb, cp, cm, cv, base⟩ m g mk ts vr vs ob (kd) a b k on))).below hb1))))
  all_goals
    have HST : Hid (St9 w _ ⟨V, S, T, q, p, gb, cap, pb, mb, vb, cp, cm, cv, base⟩ m g mk ts vr vs ob (kd) a b k on) := Lib.hid (Hid.out (by assumption : Hid (St9 w _ ⟨V, S, T, q, p, gb, cap, pb, mb, vb, cp, cm, cv, base⟩ m g mk ts vr vs ob (kd) a b k on)))
    obtain ⟨I, hI⟩ : ∃ I, rowF a ts.length = I := ⟨_, rfl⟩
    obtain ⟨J, hJ⟩ : ∃ J, rowF b ts.length = J := ⟨_, rfl⟩
    have HI := Lib.hid hI
    have HJ := Lib.hid hJ
    rw [hI, hJ]
    clear hI hJ HST0 HPd HSd HSa HSb hb1 y0 y1 y2 y4 y5 y6 y7 y8 y9 y10 y11 y12 y13 z0 z1 z2 z3 z4 hlt hlt2
    obtain ⟨y0, y1, y2, y4, y5, y6, y7, y8, y9, y10, y11, y12, y13, z0, z1, z2, z3, z4⟩ := hpo _ HST.out.po
    have hlt := (HST.out.po).p.lt
    have hlt2 := (HST.out.po).o.lt
    have hq1 : (kd == 1) = false := beq_eq_false_iff_ne.2 h1
    have hq2 : (kd == 2) = false := beq_eq_false_iff_ne.2 h2
    have hq3 : (kd == 3) = false := beq_eq_false_iff_ne.2 h3
    go_wp2_with fail
    go_ret
    exact ⟨g, mk, ts, vr, vs, rfl, HST.out.pl.more (by omega), HF.out, HST.out.be, fun _ => rfl⟩

theorem step_flat (h : PlayM w ⟨V, S, T, q, p, gb, cap, pb, mb, vb, cp, cm, cv, base⟩ m g mk ts vr vs) (hF : FI V S g mk ts) (hK : KOk ⟨V, S, T, q, p, gb, cap, pb, mb, vb, cp, cm, cv, base⟩) (ha : a ≤ 9223372036854775807) (hb : b ≤ 9223372036854775807) (hk1 : -9223372036854775808 ≤ k) (hk2 : k ≤ 9223372036854775807) (hm : m ≤ 950000) :
    Calls Try.prog 12 #[.pointer (some ⟨q, 0, none⟩), .agg #[.int .i64 kd, .int .i64 a, .int .i64 b, .int .i64 k, .bool on]] w (StepD ⟨V, S, T, q, p, gb, cap, pb, mb, vb, cp, cm, cv, base⟩ (m + 12 * nN V S + 7) g w) := by
  by_cases h1 : kd = 1
  · subst h1; exact step1 h hF hK ha hb hk1 hk2 hm
  by_cases h2 : kd = 2
  · subst h2; exact step2 h hF hK ha hb hk1 hk2 hm
  by_cases h3 : kd = 3
  · subst h3; exact step3 h hF hK ha hb hk1 hk2 hm
  exact step0 h hF hK ha hb hk1 hk2 hm h1 h2 h3
theorem step_any {K : PK9} (h : PlayM w K m g mk ts vr vs) (hF : FI K.V K.S g mk ts) (hK : KOk K) (ha : a ≤ 9223372036854775807) (hb : b ≤ 9223372036854775807) (hk1 : -9223372036854775808 ≤ k) (hk2 : k ≤ 9223372036854775807) (hm : m ≤ 950000) :
    Calls Try.prog 12 #[.pointer (some ⟨K.q, 0, none⟩), .agg #[.int .i64 kd, .int .i64 a, .int .i64 b, .int .i64 k, .bool on]] w (StepD K (m + 12 * K.n + 7) g w) := by
  cases K
  exact step_flat h hF hK ha hb hk1 hk2 hm
end

end Go.Proofs.Ytgafnomfdnbblaa
