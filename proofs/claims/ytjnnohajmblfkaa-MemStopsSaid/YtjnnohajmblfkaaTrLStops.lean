/- Walk of MemStops. -/
import Derived.Test.YtjnnohajmblfkaaTrP
namespace Go.Proofs.Ytjnnohajmblfkaa
open Go.RowKit

theorem info_u64' : (Try.prog.info? 32).map (fun i => (i.zero, i.size, i.bytes)) = some (some (.int .u64 0), 1, 8) := by kernel_rfl

set_option maxRecDepth 100000 in
set_option maxHeartbeats 4000000 in
theorem memStops_out (a1 : Option Addr) (n cap1 : Nat) (a2 : Option Addr) (len cap2 : Nat) (w : World) (h : (60 : Int) < (n : Int) ∨ (80 : Int) < (len : Int)) :
    Calls Try.prog 5 #[.slice a1 n cap1, .slice a2 len cap2] w fun e w' => e = .returned (.bool true) ∧ Below w.heap.size w w' := by
  by_cases h1 : (60 : Int) < (n : Int)
  · clear h
    go_enter Try.func5, Try.ntmps5
    go_wp2_with fail
    refine (awake_any _).mono ?_; rintro e w3 ⟨rfl, hb3⟩
    go_wp2_with fail
    go_ret
    exact ⟨rfl, hb3⟩
  · have h2 : (80 : Int) < (len : Int) := by omega
    clear h
    go_enter Try.func5, Try.ntmps5
    go_wp2_with fail
    refine (awake_any _).mono ?_; rintro e w3 ⟨rfl, hb3⟩
    go_wp2_with fail
    go_ret
    exact ⟨rfl, hb3⟩

/-- What holds at each head of the first loop. -/
def StopRel (w : World) (p g cp gl n : Nat) (c f : Nat → Int) (ys : List AccV) (wv i : Value) (wr : World) : Prop :=
  ∃ k : Nat, k ≤ ys.length ∧ wv = .int .i64 ys.length ∧ i = .int .i64 k ∧ Ar wr p g n cp c f ∧ Rw wr gl n (playL n f (ys.take k)) ∧ (∀ j x, j < k → ys[j]? = some x → okA n (playL n f (ys.take j)) x = true) ∧ Below w.heap.size w wr

/-- What holds at each head of the last loop. -/
def LastRel (w : World) (p g cp gl n : Nat) (f : Nat → Int) (i : Value) (wr : World) : Prop :=
  ∃ (k : Nat) (c : Nat → Int), k ≤ n ∧ i = .int .i64 k ∧ Ar wr p g n cp c f ∧ CB c (200 + k) ∧ Rw wr gl n f ∧ Below w.heap.size w wr

set_option maxRecDepth 100000 in
set_option maxHeartbeats 16000000 in
theorem memStops_main (a1 : Option Addr) (n cap1 : Nat) (f : Nat → Int) (h0 : a1 = none → n = 0 ∧ cap1 = 0) (a2 : Option Addr) (ys : List AccV) (cap2 : Nat) (w : World) (h1 : (n : Int) ≤ 60) (h2 : (ys.length : Int) ≤ 80) (hs1 : Nums w a1 n f) (hs2 : Ops w a2 ys) :
    Calls Try.prog 5 #[.slice a1 n cap1, .slice a2 ys.length cap2] w fun e w' => e = .returned (.bool true) ∧ Below w.heap.size w w' := by
  obtain ⟨i0, hi0, hz0, hz1, hz2⟩ := info_parts info_u64'
  have H0 := Lib.hid h0; clear h0
  have HS1 := Lib.hid hs1; clear hs1
  have HS2 := Lib.hid hs2; clear hs2
  go_enter Try.func5, Try.ntmps5
  go_wp2_with fail
  refine (begun_any a1 n cap1 f _ (by omega) HS1.out).mono ?_; rintro e w1 ⟨p, g, cp, c, rfl, hp, hg, A1, m1, B1⟩
  have M1 := Lib.hid m1; clear m1
  have lp := A1.p_lt
  have lg := A1.g_lt
  have HA1 := Lib.hid A1; clear A1
  have HB1 := Lib.hid B1; clear B1
  go_wp2_with (at_builtin
               refine wpList_append_opt _ rfl _ _ 22 rfl w1.heap.size 32 i0 _ 1 8 Try.underlying22 hi0 hz0 hz1 hz2 rfl (by omega) _ 0 [] rfl
                 (World.ownsRow_made w1 #[] 0 (Nat.le_refl _) (Nat.zero_le _) rfl) a1 n cap1 ((List.range n).map fun k => Value.int .u64 (f k)) rfl ?c0 (by simp) ?c1 nums_one (by simp only [maxLen]; omega) (by omega) (by simp) ?_)
  case c0 => exact H0.out
  case c1 => exact nums_news (HS1.out.later (HB1.out.alloc HB1.out.size _))
  intro v' w2 hown hgrow hnil _
  obtain ⟨gl, cl, rfl, hgl, L2⟩ := Rw.of_owns (by simpa using hown) (fun e => by cases hnil e)
  have B2' : Below w1.heap.size w1 w2 := ((Below.refl _ w1).alloc (Nat.le_refl _) _).grown hgrow (by simp) (by intro k hk; simp [Value.ownBlock] at hk; omega)
  have A2 := HA1.out.below B2' (Nat.le_refl _)
  have B2 := keepB HB1.out B2'
  have hgl : gl ≠ p ∧ gl ≠ g := ⟨by omega, by omega⟩
  have hglw : w.heap.size ≤ gl := by have := HB1.out.size; omega
  clear hown hgrow hnil B2' HA1 HB1
  go_wp2_with fail
  go_loopw [7, 35] (fun wv i wr => StopRel w p g cp gl n c f ys wv i wr) (fun _ i _ => ys.length - (intOf i).toNat)
  case atStart => exact ⟨0, Nat.zero_le _, rfl, rfl, A2, L2, fun j x hj => absurd hj (Nat.not_lt_zero _), B2⟩
  case round =>
    clear A2 L2 B2
    obtain ⟨k, hk, rfl, rfl, A, L, hok, B⟩ := hrel
    by_cases hlt : k < ys.length
    · obtain ⟨b, off, rfl, hcells⟩ := HS2.out.acc (by intro h; rw [h] at hlt; exact absurd hlt (Nat.not_lt_zero _))
      obtain ⟨⟨s, xc, v⟩, hxk⟩ : ∃ x, ys[k]? = some x := ⟨_, List.getElem?_eq_getElem hlt⟩
      obtain ⟨x0, x1, x2⟩ := hcells k _ hxk
      clear hcells
      have y0 := cell_later B x0
      have y1 := cell_later B x1
      have y2 := cell_later B x2
      clear x0 x1 x2
      simp only at y0 y1 y2
      have HT : Hid (playL n f (ys.take (k + 1)) = stepF n (playL n f (ys.take k)) ⟨s, xc, v⟩) := playL_take n f ys hxk
      have HN : Hid (okA n (playL n f (ys.take k)) ⟨s, xc, v⟩ = true → ∀ j x, j < k + 1 → ys[j]? = some x → okA n (playL n f (ys.take j)) x = true) := by
        intro h j x hj hx
        by_cases e : j = k
        · subst e; rw [hxk] at hx; cases hx; exact h
        · exact hok j x (by omega) hx
      have HFB : Hid (okA n (playL n f (ys.take k)) ⟨s, xc, v⟩ = false → FirstBad n f ys k) := fun h => ⟨hk, hok, fun x hx => by rw [hxk] at hx; cases hx; exact h⟩
      clear hxk hok
      obtain ⟨F, hF⟩ : ∃ F, playL n f (ys.take k) = F := ⟨_, rfl⟩
      rw [hF] at L HT HN HFB
      have HF := Lib.hid hF; clear hF
      have hll := L.lt
      by_cases hr : 0 ≤ xc ∧ xc < n
      · obtain ⟨j, rfl⟩ := Int.eq_ofNat_of_zero_le hr.1
        have hj : j < n := by omega
        clear hr
        have lc := L.cell hj
        have lf := L.fz j
        cases s with
        | true =>
          have hstep : Hid (playL n f (ys.take (k + 1)) = upd F j v) := Lib.hid (by rw [HT.out]; simp [stepF]; intro h; exact absurd hj (by omega))
          have hnew := Lib.hid (HN.out (by simp [okA]))
          have HR : Hid (StopRel w p g cp gl n c f ys (.int .i64 ys.length) (.int .i64 ((k : Int) + 1)) ((wr.setCell ⟨gl, j, none⟩ (.int .u64 v)).alloc (.cells #[.bool true, .int .i64 (j : Int), .int .u64 v] 37))) := ⟨k + 1, by omega, rfl, by go_num, (A.far (fun e => hgl.1 e.symm) (fun e => hgl.2 e.symm) _).alloc _, by rw [hstep.out]; exact (L.set_ hj v).alloc _, hnew.out, (Below.far B hglw _).alloc (Nat.le_trans B.size (by simp [World.setCell])) _⟩
          clear A L B HT HN HFB hstep hnew
          go_wp2_with fail
          exact ⟨HR.out, by simp [intOf]; omega⟩
        | false =>
          by_cases hv : F j = v
          · have hv1 : (F j != v) = false := by simp [hv]
            have hstep : Hid (playL n f (ys.take (k + 1)) = F) := Lib.hid (by rw [HT.out]; simp [stepF])
            have hnew := Lib.hid (HN.out (by simp [okA, readN, hj, hv]))
            have HR : Hid (StopRel w p g cp gl n c f ys (.int .i64 ys.length) (.int .i64 ((k : Int) + 1)) (wr.alloc (.cells #[.bool false, .int .i64 (j : Int), .int .u64 v] 37))) := ⟨k + 1, by omega, rfl, by go_num, A.alloc _, by rw [hstep.out]; exact L.alloc _, hnew.out, B.alloc B.size _⟩
            clear A L B HT HN HFB hstep hnew
            go_wp2_with fail
            exact ⟨HR.out, by simp [intOf]; omega⟩
          · have hv1 : (F j != v) = true := by simp [hv]
            have FB := Lib.hid (HFB.out (by simp [okA, readN, hj, hv]))
            have hfv := hv
            have HA := Lib.hid (A.alloc (.cells #[.bool false, .int .i64 (j : Int), .int .u64 v] 37))
            have HL : Hid (Rw (wr.alloc (.cells #[.bool false, .int .i64 (j : Int), .int .u64 v] 37)) gl n (playL n f (ys.take k))) := by rw [HF.out]; exact L.alloc _
            have HB := Lib.hid (B.alloc B.size (.cells #[.bool false, .int .i64 (j : Int), .int .u64 v] 37))
            have hkne : ¬ k = ys.length := by omega
            have hb2 : (((k : Nat) : Int) == (ys.length : Int)) = false := beq_eq_false_iff_ne.2 (by omega)
            clear A L B HT HN HFB HF hfv
            go_wp2_with fail
            refine (of_any _ _).mono ?_; rintro e w4 ⟨rfl, B4⟩
            have A4 := HA.out.below B4 (Nat.le_refl _)
            have L4 := HL.out.below B4
            have K4 := keepB HB.out B4
            clear HA HL HB B4
            go_wp2_with fail
            refine (replay_any (xs := ys) _ cap2 A4 M1.out (by omega) (by omega) (fun w' ho => HS2.out.acc.later (ho.below K4 K4.size hp hg)) (fun x hx _ => HS2.out.fit x hx)).mono ?_; rintro e w5 ⟨k', c5, hk', rfl, A5, m5, O5, ok5, bad5⟩
            have ek : k = k' := FirstBad.unique FB.out ⟨hk', ok5, bad5⟩
            subst ek
            have L5 := L4.only O5 (by omega) (by omega)
            have K5 : Below w.heap.size w w5 := O5.below K4 K4.size hp hg
            have m5' := m5.more (m' := 200 + 0) (by omega)
            clear A4 L4 K4 O5 ok5 bad5 m5 FB
            generalize playL n f (ys.take (k)) = F at A5 L5
            rw [show decide (k = ys.length) = false by simp [hkne]]
            have hb3 : (((k : Nat) : Int) != ((k : Nat) : Int)) = false := by simp
            go_wp2_with fail
            go_loopw [99] (fun i wr => LastRel w p g cp gl n F i wr) (fun i _ => n - (intOf i).toNat)
            case atStart => exact ⟨0, c5, Nat.zero_le _, rfl, A5, m5', L5, K5⟩
            case round =>
              clear A5 m5' L5 K5
              obtain ⟨j, cc, hj, rfl, A, hm, L, B⟩ := hrel
              by_cases hlt : j < n
              · have z0 := L.cell hlt
                have HA := Lib.hid A
                have HB := Lib.hid B
                have HL := Lib.hid L
                have hm2 := Lib.hid hm
                have e9 : readN n F (j : Int) = F j := by simp [readN, hlt]
                have e8 : (F j != F j) = false := by simp
                have hgp := hgl.1
                have hgg := hgl.2
                clear A B L hm
                go_wp2_with fail
                go_region_held3 (fun w' => w'.cell? ⟨gl, j, none⟩ = some (.int .u64 (F j)))
                  (first | assumption | exact cell_later B9 (by assumption) | exact only_cell O9 hgp hgg (by assumption))
                  (first
                    | ((with_reducible refine (of_any p _).mono ?_); rintro e w9 ⟨rfl, B9⟩; have A9 := HA.out.drew.below B9 (Nat.le_refl _))
                    | ((with_reducible refine (pload_st A9 (j : Int) hm2.out (by omega)).mono ?_); rw [e9]; rintro e w10 ⟨c10, rfl, A10, m10, O9⟩))
                have L10 := (HL.out.drew.below B9).only O9 hgp hgg
                have K10 : Below w.heap.size w w10 := O9.below (keepB (Below.drewd HB.out) B9) (keepB (Below.drewd HB.out) B9).size hp hg
                have HR : Hid (LastRel w p g cp gl n F (.int .i64 ((j : Int) + 1)) w10) := ⟨j + 1, c10, by omega, by go_num, A10, m10, L10, K10⟩
                clear HA HB HL hm2 A9 B9 O9 A10 m10 L10 K10 z0
                go_wp2_with fail
                exact ⟨HR.out, by simp [intOf]; omega⟩
              · have HB := Lib.hid B
                clear A B L hm
                go_wp2_with fail
                refine (awake_any _).mono ?_; rintro e w8 ⟨rfl, B8⟩
                go_wp2_with fail
                go_ret
                exact ⟨rfl, keepB HB.out B8⟩
      · by_cases hneg : xc < 0
        · have hr' : ¬ (0 ≤ xc ∧ xc < n) := hr
          clear hr
          have HRR := Lib.hid hr'; clear hr'
          cases s with
          | true =>
            have hstep : Hid (playL n f (ys.take (k + 1)) = F) := Lib.hid (by rw [HT.out]; have := HRR.out; simp only [stepF]; rw [if_neg (fun h => this h.2)])
            have hnew := Lib.hid (HN.out (by simp [okA]))
            have HR : Hid (StopRel w p g cp gl n c f ys (.int .i64 ys.length) (.int .i64 ((k : Int) + 1)) (wr.alloc (.cells #[.bool true, .int .i64 xc, .int .u64 v] 37))) := ⟨k + 1, by omega, rfl, by go_num, A.alloc _, by rw [hstep.out]; exact L.alloc _, hnew.out, B.alloc B.size _⟩
            clear A L B HT HN HFB hstep hnew
            go_wp2_with fail
            exact ⟨HR.out, by simp [intOf]; omega⟩
          | false =>
            by_cases hv : v = 0
            · subst hv
              have hstep : Hid (playL n f (ys.take (k + 1)) = F) := Lib.hid (by rw [HT.out]; simp [stepF])
              have hnew := Lib.hid (HN.out (by have := HRR.out; simp [okA, readN]; intro a b; exact absurd ⟨a, b⟩ this))
              have HR : Hid (StopRel w p g cp gl n c f ys (.int .i64 ys.length) (.int .i64 ((k : Int) + 1)) (wr.alloc (.cells #[.bool false, .int .i64 xc, .int .u64 0] 37))) := ⟨k + 1, by omega, rfl, by go_num, A.alloc _, by rw [hstep.out]; exact L.alloc _, hnew.out, B.alloc B.size _⟩
              clear A L B HT HN HFB hstep hnew
              go_wp2_with fail
              exact ⟨HR.out, by simp [intOf]; omega⟩
            · have hv1 : ((0 : Int) != v) = true := by simp; omega
              have FB := Lib.hid (HFB.out (by have := HRR.out; simp only [okA, readN]; rw [if_neg this]; simp; omega))
              have hfv := hv
              have HA := Lib.hid (A.alloc (.cells #[.bool false, .int .i64 xc, .int .u64 v] 37))
              have HL : Hid (Rw (wr.alloc (.cells #[.bool false, .int .i64 xc, .int .u64 v] 37)) gl n (playL n f (ys.take k))) := by rw [HF.out]; exact L.alloc _
              have HB := Lib.hid (B.alloc B.size (.cells #[.bool false, .int .i64 xc, .int .u64 v] 37))
              have hkne : ¬ k = ys.length := by omega
              have hb2 : (((k : Nat) : Int) == (ys.length : Int)) = false := beq_eq_false_iff_ne.2 (by omega)
              clear A L B HT HN HFB HF hfv
              go_wp2_with fail
              refine (of_any _ _).mono ?_; rintro e w4 ⟨rfl, B4⟩
              have A4 := HA.out.below B4 (Nat.le_refl _)
              have L4 := HL.out.below B4
              have K4 := keepB HB.out B4
              clear HA HL HB B4
              go_wp2_with fail
              refine (replay_any (xs := ys) _ cap2 A4 M1.out (by omega) (by omega) (fun w' ho => HS2.out.acc.later (ho.below K4 K4.size hp hg)) (fun x hx _ => HS2.out.fit x hx)).mono ?_; rintro e w5 ⟨k', c5, hk', rfl, A5, m5, O5, ok5, bad5⟩
              have ek : k = k' := FirstBad.unique FB.out ⟨hk', ok5, bad5⟩
              subst ek
              have L5 := L4.only O5 (by omega) (by omega)
              have K5 : Below w.heap.size w w5 := O5.below K4 K4.size hp hg
              have m5' := m5.more (m' := 200 + 0) (by omega)
              clear A4 L4 K4 O5 ok5 bad5 m5 FB
              generalize playL n f (ys.take (k)) = F at A5 L5
              rw [show decide (k = ys.length) = false by simp [hkne]]
              have hb3 : (((k : Nat) : Int) != ((k : Nat) : Int)) = false := by simp
              go_wp2_with fail
              go_loopw [99] (fun i wr => LastRel w p g cp gl n F i wr) (fun i _ => n - (intOf i).toNat)
              case atStart => exact ⟨0, c5, Nat.zero_le _, rfl, A5, m5', L5, K5⟩
              case round =>
                clear A5 m5' L5 K5
                obtain ⟨j, cc, hj, rfl, A, hm, L, B⟩ := hrel
                by_cases hlt : j < n
                · have z0 := L.cell hlt
                  have HA := Lib.hid A
                  have HB := Lib.hid B
                  have HL := Lib.hid L
                  have hm2 := Lib.hid hm
                  have e9 : readN n F (j : Int) = F j := by simp [readN, hlt]
                  have e8 : (F j != F j) = false := by simp
                  have hgp := hgl.1
                  have hgg := hgl.2
                  clear A B L hm
                  go_wp2_with fail
                  go_region_held3 (fun w' => w'.cell? ⟨gl, j, none⟩ = some (.int .u64 (F j)))
                    (first | assumption | exact cell_later B9 (by assumption) | exact only_cell O9 hgp hgg (by assumption))
                    (first
                      | ((with_reducible refine (of_any p _).mono ?_); rintro e w9 ⟨rfl, B9⟩; have A9 := HA.out.drew.below B9 (Nat.le_refl _))
                      | ((with_reducible refine (pload_st A9 (j : Int) hm2.out (by omega)).mono ?_); rw [e9]; rintro e w10 ⟨c10, rfl, A10, m10, O9⟩))
                  have L10 := (HL.out.drew.below B9).only O9 hgp hgg
                  have K10 : Below w.heap.size w w10 := O9.below (keepB (Below.drewd HB.out) B9) (keepB (Below.drewd HB.out) B9).size hp hg
                  have HR : Hid (LastRel w p g cp gl n F (.int .i64 ((j : Int) + 1)) w10) := ⟨j + 1, c10, by omega, by go_num, A10, m10, L10, K10⟩
                  clear HA HB HL hm2 A9 B9 O9 A10 m10 L10 K10 z0
                  go_wp2_with fail
                  exact ⟨HR.out, by simp [intOf]; omega⟩
                · have HB := Lib.hid B
                  clear A B L hm
                  go_wp2_with fail
                  refine (awake_any _).mono ?_; rintro e w8 ⟨rfl, B8⟩
                  go_wp2_with fail
                  go_ret
                  exact ⟨rfl, keepB HB.out B8⟩
        · have hge : (n : Int) ≤ xc := by omega
          have hge0 : 0 ≤ xc := by omega
          have hr' : ¬ (0 ≤ xc ∧ xc < n) := hr
          clear hr hneg
          have HRR := Lib.hid hr'; clear hr'
          cases s with
          | true =>
            have hstep : Hid (playL n f (ys.take (k + 1)) = F) := Lib.hid (by rw [HT.out]; have := HRR.out; simp only [stepF]; rw [if_neg (fun h => this h.2)])
            have hnew := Lib.hid (HN.out (by simp [okA]))
            have HR : Hid (StopRel w p g cp gl n c f ys (.int .i64 ys.length) (.int .i64 ((k : Int) + 1)) (wr.alloc (.cells #[.bool true, .int .i64 xc, .int .u64 v] 37))) := ⟨k + 1, by omega, rfl, by go_num, A.alloc _, by rw [hstep.out]; exact L.alloc _, hnew.out, B.alloc B.size _⟩
            clear A L B HT HN HFB hstep hnew
            go_wp2_with fail
            exact ⟨HR.out, by simp [intOf]; omega⟩
          | false =>
            by_cases hv : v = 0
            · subst hv
              have hstep : Hid (playL n f (ys.take (k + 1)) = F) := Lib.hid (by rw [HT.out]; simp [stepF])
              have hnew := Lib.hid (HN.out (by have := HRR.out; simp [okA, readN]; intro a b; exact absurd ⟨a, b⟩ this))
              have HR : Hid (StopRel w p g cp gl n c f ys (.int .i64 ys.length) (.int .i64 ((k : Int) + 1)) (wr.alloc (.cells #[.bool false, .int .i64 xc, .int .u64 0] 37))) := ⟨k + 1, by omega, rfl, by go_num, A.alloc _, by rw [hstep.out]; exact L.alloc _, hnew.out, B.alloc B.size _⟩
              clear A L B HT HN HFB hstep hnew
              go_wp2_with fail
              exact ⟨HR.out, by simp [intOf]; omega⟩
            · have hv1 : ((0 : Int) != v) = true := by simp; omega
              have FB := Lib.hid (HFB.out (by have := HRR.out; simp only [okA, readN]; rw [if_neg this]; simp; omega))
              have hfv := hv
              have HA := Lib.hid (A.alloc (.cells #[.bool false, .int .i64 xc, .int .u64 v] 37))
              have HL : Hid (Rw (wr.alloc (.cells #[.bool false, .int .i64 xc, .int .u64 v] 37)) gl n (playL n f (ys.take k))) := by rw [HF.out]; exact L.alloc _
              have HB := Lib.hid (B.alloc B.size (.cells #[.bool false, .int .i64 xc, .int .u64 v] 37))
              have hkne : ¬ k = ys.length := by omega
              have hb2 : (((k : Nat) : Int) == (ys.length : Int)) = false := beq_eq_false_iff_ne.2 (by omega)
              clear A L B HT HN HFB HF hfv
              go_wp2_with fail
              refine (of_any _ _).mono ?_; rintro e w4 ⟨rfl, B4⟩
              have A4 := HA.out.below B4 (Nat.le_refl _)
              have L4 := HL.out.below B4
              have K4 := keepB HB.out B4
              clear HA HL HB B4
              go_wp2_with fail
              refine (replay_any (xs := ys) _ cap2 A4 M1.out (by omega) (by omega) (fun w' ho => HS2.out.acc.later (ho.below K4 K4.size hp hg)) (fun x hx _ => HS2.out.fit x hx)).mono ?_; rintro e w5 ⟨k', c5, hk', rfl, A5, m5, O5, ok5, bad5⟩
              have ek : k = k' := FirstBad.unique FB.out ⟨hk', ok5, bad5⟩
              subst ek
              have L5 := L4.only O5 (by omega) (by omega)
              have K5 : Below w.heap.size w w5 := O5.below K4 K4.size hp hg
              have m5' := m5.more (m' := 200 + 0) (by omega)
              clear A4 L4 K4 O5 ok5 bad5 m5 FB
              generalize playL n f (ys.take (k)) = F at A5 L5
              rw [show decide (k = ys.length) = false by simp [hkne]]
              have hb3 : (((k : Nat) : Int) != ((k : Nat) : Int)) = false := by simp
              go_wp2_with fail
              go_loopw [99] (fun i wr => LastRel w p g cp gl n F i wr) (fun i _ => n - (intOf i).toNat)
              case atStart => exact ⟨0, c5, Nat.zero_le _, rfl, A5, m5', L5, K5⟩
              case round =>
                clear A5 m5' L5 K5
                obtain ⟨j, cc, hj, rfl, A, hm, L, B⟩ := hrel
                by_cases hlt : j < n
                · have z0 := L.cell hlt
                  have HA := Lib.hid A
                  have HB := Lib.hid B
                  have HL := Lib.hid L
                  have hm2 := Lib.hid hm
                  have e9 : readN n F (j : Int) = F j := by simp [readN, hlt]
                  have e8 : (F j != F j) = false := by simp
                  have hgp := hgl.1
                  have hgg := hgl.2
                  clear A B L hm
                  go_wp2_with fail
                  go_region_held3 (fun w' => w'.cell? ⟨gl, j, none⟩ = some (.int .u64 (F j)))
                    (first | assumption | exact cell_later B9 (by assumption) | exact only_cell O9 hgp hgg (by assumption))
                    (first
                      | ((with_reducible refine (of_any p _).mono ?_); rintro e w9 ⟨rfl, B9⟩; have A9 := HA.out.drew.below B9 (Nat.le_refl _))
                      | ((with_reducible refine (pload_st A9 (j : Int) hm2.out (by omega)).mono ?_); rw [e9]; rintro e w10 ⟨c10, rfl, A10, m10, O9⟩))
                  have L10 := (HL.out.drew.below B9).only O9 hgp hgg
                  have K10 : Below w.heap.size w w10 := O9.below (keepB (Below.drewd HB.out) B9) (keepB (Below.drewd HB.out) B9).size hp hg
                  have HR : Hid (LastRel w p g cp gl n F (.int .i64 ((j : Int) + 1)) w10) := ⟨j + 1, c10, by omega, by go_num, A10, m10, L10, K10⟩
                  clear HA HB HL hm2 A9 B9 O9 A10 m10 L10 K10 z0
                  go_wp2_with fail
                  exact ⟨HR.out, by simp [intOf]; omega⟩
                · have HB := Lib.hid B
                  clear A B L hm
                  go_wp2_with fail
                  refine (awake_any _).mono ?_; rintro e w8 ⟨rfl, B8⟩
                  go_wp2_with fail
                  go_ret
                  exact ⟨rfl, keepB HB.out B8⟩
    · have ek0 : k = ys.length := by omega
      have FB : Hid (FirstBad n f ys k) := ⟨hk, hok, fun x hx => by rw [ek0, List.getElem?_eq_none (Nat.le_refl _)] at hx; cases hx⟩
      subst ek0
      have HA := Lib.hid A; clear A
      have HL := Lib.hid L; clear L
      have HB := Lib.hid B; clear B
      clear hok hk
      go_wp2_with fail
      refine (of_any _ _).mono ?_; rintro e w4 ⟨rfl, B4⟩
      have A4 := HA.out.below B4 (Nat.le_refl _)
      have L4 := HL.out.below B4
      have K4 := keepB HB.out B4
      clear HA HL HB B4
      go_wp2_with fail
      refine (replay_any (xs := ys) _ cap2 A4 M1.out (by omega) (by omega) (fun w' ho => HS2.out.acc.later (ho.below K4 K4.size hp hg)) (fun x hx _ => HS2.out.fit x hx)).mono ?_; rintro e w5 ⟨k', c5, hk', rfl, A5, m5, O5, ok5, bad5⟩
      have ek : ys.length = k' := FirstBad.unique FB.out ⟨hk', ok5, bad5⟩
      subst ek
      have L5 := L4.only O5 (by omega) (by omega)
      have K5 : Below w.heap.size w w5 := O5.below K4 K4.size hp hg
      have m5' := m5.more (m' := 200 + 0) (by omega)
      clear A4 L4 K4 O5 ok5 bad5 m5 FB
      generalize playL n f (ys.take (ys.length)) = F at A5 L5
      rw [show decide (ys.length = ys.length) = true by simp]
      have hb3 : (((ys.length : Nat) : Int) != ((ys.length : Nat) : Int)) = false := by simp
      go_wp2_with fail
      go_loopw [99] (fun i wr => LastRel w p g cp gl n F i wr) (fun i _ => n - (intOf i).toNat)
      case atStart => exact ⟨0, c5, Nat.zero_le _, rfl, A5, m5', L5, K5⟩
      case round =>
        clear A5 m5' L5 K5
        obtain ⟨j, cc, hj, rfl, A, hm, L, B⟩ := hrel
        by_cases hlt : j < n
        · have z0 := L.cell hlt
          have HA := Lib.hid A
          have HB := Lib.hid B
          have HL := Lib.hid L
          have hm2 := Lib.hid hm
          have e9 : readN n F (j : Int) = F j := by simp [readN, hlt]
          have e8 : (F j != F j) = false := by simp
          have hgp := hgl.1
          have hgg := hgl.2
          clear A B L hm
          go_wp2_with fail
          go_region_held3 (fun w' => w'.cell? ⟨gl, j, none⟩ = some (.int .u64 (F j)))
            (first | assumption | exact cell_later B9 (by assumption) | exact only_cell O9 hgp hgg (by assumption))
            (first
              | ((with_reducible refine (of_any p _).mono ?_); rintro e w9 ⟨rfl, B9⟩; have A9 := HA.out.drew.below B9 (Nat.le_refl _))
              | ((with_reducible refine (pload_st A9 (j : Int) hm2.out (by omega)).mono ?_); rw [e9]; rintro e w10 ⟨c10, rfl, A10, m10, O9⟩))
          have L10 := (HL.out.drew.below B9).only O9 hgp hgg
          have K10 : Below w.heap.size w w10 := O9.below (keepB (Below.drewd HB.out) B9) (keepB (Below.drewd HB.out) B9).size hp hg
          have HR : Hid (LastRel w p g cp gl n F (.int .i64 ((j : Int) + 1)) w10) := ⟨j + 1, c10, by omega, by go_num, A10, m10, L10, K10⟩
          clear HA HB HL hm2 A9 B9 O9 A10 m10 L10 K10 z0
          go_wp2_with fail
          exact ⟨HR.out, by simp [intOf]; omega⟩
        · have HB := Lib.hid B
          clear A B L hm
          go_wp2_with fail
          refine (awake_any _).mono ?_; rintro e w8 ⟨rfl, B8⟩
          go_wp2_with fail
          go_ret
          exact ⟨rfl, keepB HB.out B8⟩

theorem memStops_walk (a1 : Option Addr) (n cap1 : Nat) (f : Nat → Int) (a2 : Option Addr) (os : List AccV) (cap2 : Nat) (w : World) (s1 : Nums w a1 n f ∧ (a1 = none → n = 0 ∧ cap1 = 0)) (s2 : Ops w a2 os) :
    Calls Try.prog 5 #[.slice a1 n cap1, .slice a2 os.length cap2] w fun e w' => e = .returned (.bool true) ∧ Below w.heap.size w w' := by
  by_cases h : (60 : Int) < (n : Int) ∨ (80 : Int) < (os.length : Int)
  · exact memStops_out a1 n cap1 a2 os.length cap2 w h
  · exact memStops_main a1 n cap1 f s1.2 a2 os cap2 w (by omega) (by omega) s1.1 s2
end Go.Proofs.Ytjnnohajmblfkaa
