/- Walk of SlotSeries. -/
import Derived.Test.YtgjlilcljefbfaaSlotQ
namespace Go.Proofs.Ytgjlilcljefbfaa
open Go.RowKit

set_option maxRecDepth 100000

theorem slotSeries_neg (s : Int) (a : Option Addr) (len cap : Nat) (w : World) (hs : s < 0) :
    Calls Try.prog 3 #[.int .i64 s, .slice a len cap] w fun e w' => e = .returned (.bool true) ∧ Below w.heap.size w w' := by
  go_enter Try.func3, Try.ntmps3
  go_wp2_with fail
  refine (awake_any _).mono ?_; rintro e w3 ⟨rfl, hb3⟩
  go_wp2_with fail
  go_ret
  exact ⟨rfl, keepB ((Below.refl _ _).alloc (Nat.le_refl _) _) hb3⟩
theorem slotSeries_many (s : Int) (a : Option Addr) (len cap : Nat) (w : World) (h0 : ¬ s < 0) (hs : 48 < s) :
    Calls Try.prog 3 #[.int .i64 s, .slice a len cap] w fun e w' => e = .returned (.bool true) ∧ Below w.heap.size w w' := by
  go_enter Try.func3, Try.ntmps3
  go_wp2_with fail
  refine (awake_any _).mono ?_; rintro e w3 ⟨rfl, hb3⟩
  go_wp2_with fail
  go_ret
  exact ⟨rfl, keepB ((Below.refl _ _).alloc (Nat.le_refl _) _) hb3⟩
theorem slotSeries_long (s : Int) (a : Option Addr) (len cap : Nat) (w : World) (h0 : ¬ s < 0) (h1 : ¬ 48 < s) (h60 : (60 : Int) < (len : Int)) :
    Calls Try.prog 3 #[.int .i64 s, .slice a len cap] w fun e w' => e = .returned (.bool true) ∧ Below w.heap.size w w' := by
  go_enter Try.func3, Try.ntmps3
  go_wp2_with fail
  refine (awake_any _).mono ?_; rintro e w3 ⟨rfl, hb3⟩
  go_wp2_with fail
  go_ret
  exact ⟨rfl, keepB ((Below.refl _ _).alloc (Nat.le_refl _) _) hb3⟩

/-- What holds at each round's head. -/
def SerRel (b p g n cap S len : Nat) (w0 : World) (fv tv i : Value) (w : World) : Prop :=
  ∃ (k m : Nat) (c f : Nat → Int) (hd : Nat × Nat) (nx : Nat → Nat) (L K : List Nat), k ≤ len ∧ i = .int .i64 (k : Int) ∧ m ≤ 100 + 60 * k ∧ SA w p g n cap 1 S (3 * k) m c f hd nx ∧ Pile S hd nx L K ∧
    LI w fv L ∧ LI w tv K ∧ (∀ i, bk fv = some i → w0.heap.size ≤ i) ∧ (∀ i, bk tv = some i → w0.heap.size ≤ i ∧ bk fv ≠ some i) ∧ LyB w b 1 S 1 ∧ Below w0.heap.size w0 w

/-- A take alone, step by step. -/
def SerTk (b q p g n cap S M m : Nat) (w0 : World) (hd : Nat × Nat) (nx : Nat → Nat) (fv tv : Value) (L K : List Nat) (i : Value) (w : World) : Prop :=
  ∃ (j : Nat) (c' f' : Nat → Int) (kk : Wk) (g0 : Nat × Nat), (i = .int .i64 0 ∧ j = 0 ∧ kk = .take0 ∨ i = .int .i64 1 ∧ j = 1 ∧ kk = .take1 hd ∧ hd.2 ≠ 0 ∨ i = .int .i64 2 ∧ j = 2 ∧ kk = .take2 hd (nx (hd.2 - 1)) ∧ hd.2 ≠ 0) ∧
    SA w p g n cap 1 S (M + j) (m + j) c' f' hd nx ∧ PgT w q 1 S 1 g0 kk ∧ LI w fv L ∧ LI w tv K ∧ LyB w b 1 S 1 ∧ Below w0.heap.size w0 w

theorem bk_tail {b off n n' cap k : Nat} (h : bk (.slice (if cap = 1 then some ⟨b, off, none⟩ else some ⟨b, off + 1, none⟩) n' (cap - 1)) = some k) : bk (.slice (some ⟨b, off, none⟩) n cap) = some k := by
  match cap, h with
  | 0, h => simp [bk] at h
  | 1, h => simp [bk] at h
  | c + 2, h =>
    rw [if_neg (by omega)] at h
    exact h

theorem ser_take {b p g n cap S len i m M x : Nat} {w w7 w8 : World} {c f : Nat → Int} {hd : Nat × Nat} {nx : Nat → Nat} {fv fv' tv tv' : Value} {L K : List Nat} (hi : i + 1 ≤ len) (hm : m ≤ 100 + 60 * (i + 1)) (hM : M ≤ 3 * (i + 1))
    (A : SA w7 p g n cap 1 S M m c f hd nx) (PL : Pile S hd nx L (K ++ [x])) (LF : LI w7 fv' L) (hbk : ∀ k, bk fv' = some k → bk fv = some k) (LT : LI w7 tv K) (LF0 : ∀ k, bk fv = some k → k < w7.heap.size) (BF : ∀ i, bk fv = some i → w.heap.size ≤ i) (BT : ∀ i, bk tv = some i → w.heap.size ≤ i ∧ bk fv ≠ some i) (LY : LyB w7 b 1 S 1) (B : Below w.heap.size w w7)
    (hli : LI w8 tv' (K ++ [x])) (hg : ((w7.alloc (.cells #[.int .i64 (x : Int)] 3)).drew).grownBy w8 (bk tv)) (hb8 : bk tv' = bk tv ∨ ∃ k, bk tv' = some k ∧ ((w7.alloc (.cells #[.int .i64 (x : Int)] 3)).drew).heap.size ≤ k) :
    SerRel b p g n cap S len w fv' tv' (.int .i64 ((i : Int) + 1)) w8 := by
  have A1 := (A.alloc (.cells #[.int .i64 (x : Int)] 3)).drew
  have T1 := (LT.alloc (.cells #[.int .i64 (x : Int)] 3)).drew
  have F1 := (LF.alloc (.cells #[.int .i64 (x : Int)] 3)).drew
  have Y1 : LyB (w7.alloc (.cells #[.int .i64 (x : Int)] 3)).drew b 1 S 1 := (Blk.alloc LY (.cells #[.int .i64 (x : Int)] 3)).drew
  have hw7 : w.heap.size ≤ w7.heap.size := B.size
  have B1 : Below w.heap.size w (w7.alloc (.cells #[.int .i64 (x : Int)] 3)).drew := (B.alloc hw7 _).drew
  obtain ⟨zs, hz, _⟩ := A1.1.cells
  refine ⟨i + 1, m, c, f, hd, nx, L, K ++ [x], hi, by go_num, hm, ⟨A1.1.grown hg (T1.ne_blk A1.1.own (by decide)) (T1.ne_blk hz (by decide)), A.2.1.more hM, A.2.2⟩, PL, ?_, hli, fun k hk => BF k (hbk k hk), fun k hk => ?_, ?_, ?_⟩
  · exact F1.keep fun k hk => hg.block k (F1.lt k hk) (fun e => (BT k e.symm).2 (hbk k hk))
  · rcases hb8 with e | ⟨k', e, hk'⟩
    · have := BT k (e ▸ hk)
      exact ⟨this.1, fun e' => this.2 (hbk k e')⟩
    · rw [hk] at e; cases e
      have h1 : w7.heap.size + 1 ≤ k := by simpa using hk'
      exact ⟨by omega, fun e' => by have := LF0 k (hbk k e'); omega⟩
  · exact Blk.grown Y1 hg (T1.ne_blk Y1 (by decide))
  · exact B1.grown hg (by simp; omega) (fun k hk => (BT k hk).1)

set_option maxHeartbeats 8000000 in
theorem slotSeries_main (S : Nat) (a : Option Addr) (len cap0 : Nat) (zs : List Int) (w : World) (hS : S ≤ 48) (h60 : len ≤ 60) (hs : IsRow .i64 w a len cap0 zs) :
    Calls Try.prog 3 #[.int .i64 (S : Int), .slice a len cap0] w fun e w' => e = .returned (.bool true) ∧ Below w.heap.size w w' := by
  have HS := Lib.hid hs; clear hs
  have hR : Rt 1 (S : Int) 1 := ⟨by omega, by omega, by omega, by omega, by omega, by omega⟩
  have HR := Lib.hid hR
  have hS2 : (S : Int) ≤ 48 := by omega
  have hS3 : 0 ≤ (S : Int) := by omega
  have h62 : (len : Int) ≤ 60 := by omega
  clear hR
  go_enter Try.func3, Try.ntmps3
  go_wp2_with fail
  have HL0 : Hid (LyB (w.alloc (.cells #[.int .i64 1, .int .i64 (S : Int), .int .i64 1] 24)) w.heap.size 1 S 1) := Lib.hid (Blk.new _ _ _)
  have HB0 : Hid (Below w.heap.size w (w.alloc (.cells #[.int .i64 1, .int .i64 (S : Int), .int .i64 1] 24))) := Lib.hid ((Below.refl _ _).alloc (Nat.le_refl _) _)
  refine (begun_yes (V := 1) (T := 1) (S := S) (t := 1) HR.out rfl _).mono ?_; rintro e w1 ⟨p, g, cap, c, f, rfl, hp, hg, A1, _, _, hb1⟩
  obtain ⟨_, _, hn, hn2⟩ := cn_bd (V := 1) (T := 1) (S := S) (t := 1) HR.out rfl
  generalize (cn 1 (S : Int) 1).toNat = n at A1 hn hn2
  have HN := Lib.hid hn
  have HN2 := Lib.hid hn2
  have hpw : w.heap.size ≤ p := by simp at hp; omega
  have hgw : w.heap.size ≤ g := by simp at hg; omega
  have HL1 := Lib.hid (HL0.out.below hb1)
  have HB1 := Lib.hid (keepB HB0.out hb1)
  have HA1 := Lib.hid A1
  generalize hwb : w.heap.size = b at HL1 ⊢
  clear A1 hb1 hp hg HL0 HB0 hn hn2
  go_wp2_with fail
  have hSi : 0 ≤ (S : Int) := hS3
  go_loopw [7, 37] (fun fv i wr => ∃ k : Nat, k ≤ S ∧ i = .int .i64 (k : Int) ∧ LI wr fv (List.range k) ∧ (∀ i, bk fv = some i → w.heap.size ≤ i) ∧ SA wr p g n cap 1 S 0 (S + 1) c f (first S).hd (first S).nx ∧ LyB wr b 1 S 1 ∧ Below w.heap.size w wr) (fun _ i _ => S - (intOf i).toNat)
  case atStart => exact ⟨0, Nat.zero_le _, rfl, LI.nil _, fun i hi => by simp [bk] at hi, HA1.out, HL1.out, HB1.out⟩
  case round =>
    clear HA1 HL1 HB1
    obtain ⟨k, hk, rfl, L, BK, A, LY, B⟩ := hrel
    have HL := Lib.hid L
    have HBK := Lib.hid BK
    have HA := Lib.hid A
    have HLY := Lib.hid LY
    have HB := Lib.hid B
    clear L BK A LY B
    by_cases hlt : k < S
    · have hlen : (List.range k).length ≤ 100000 := by simp; omega
      go_wp2_with (at_builtin; refine wpList_append_li _ rfl _ _ rfl rfl (HL.out.alloc _) ⟨wr.heap.size, 0, none⟩ 1 k rfl (cell_new1 _ _ _) hlen ?_)
      intro v' w2 hli2 hg2 hbk2
      have hli3 : LI w2 v' (List.range (k + 1)) := by rw [List.range_succ]; exact hli2
      have HA2 : Hid (SA w2 p g n cap 1 S 0 (S + 1) c f (first S).hd (first S).nx) := by
        have A := HA.out.alloc (.cells #[.int .i64 (k : Int)] 3)
        have L := HL.out.alloc (.cells #[.int .i64 (k : Int)] 3)
        obtain ⟨zs, hz, _⟩ := A.1.cells
        exact Lib.hid ⟨A.1.grown hg2 (L.ne_blk A.1.own (by decide)) (L.ne_blk hz (by decide)), A.2⟩
      have HLY2 : Hid (LyB w2 b 1 S 1) := Lib.hid (Blk.grown (Blk.alloc HLY.out (.cells #[.int .i64 (k : Int)] 3)) hg2 ((HL.out.alloc (.cells #[.int .i64 (k : Int)] 3)).ne_blk (Blk.alloc HLY.out (.cells #[.int .i64 (k : Int)] 3)) (by decide)))
      have HB2 : Hid (Below w.heap.size w w2) := Lib.hid ((HB.out.alloc HB.out.size _).grown hg2 (by have := HB.out.size; simp; omega) HBK.out)
      have HBK2 : Hid (∀ i, bk v' = some i → w.heap.size ≤ i) := by
        refine Lib.hid fun i hi => ?_
        rcases hbk2 with e | ⟨k, e, hk⟩
        · exact HBK.out i (e ▸ hi)
        · rw [hi] at e; cases e
          have := HB.out.size
          omega
      have HL2 := Lib.hid hli3
      clear hli2 hg2 hbk2 hli3 HL HB HBK HA HLY
      go_wp2_with fail
      exact ⟨⟨k + 1, by omega, by go_num, HL2.out, HBK2.out, HA2.out, HLY2.out, HB2.out⟩, by simp [intOf]; omega⟩
    · have hkS : S = k := by omega
      subst hkS
      have HRel : Hid (SerRel b p g n cap S len w u7 (.slice none 0 0) (.int .i64 0) wr) :=
        Lib.hid ⟨0, S + 1, c, f, _, _, List.range S, [], Nat.zero_le _, rfl, by omega, HA.out, Pile.start S, HL.out, LI.nil _, HBK.out, fun i hi => by simp [bk] at hi, HLY.out, HB.out⟩
      clear HL HBK HA HLY HB
      -- MAIN
      have hSx : S ≤ S := Nat.le_refl _
      clear hSx
      go_wp2_with fail
      go_loopw [7, 8, 47] (fun fv tv i wr => SerRel b p g n cap S len w fv tv i wr) (fun _ _ i _ => len - (intOf i).toNat)
      case atStart => exact HRel.out
      case round =>
        clear HRel
        obtain ⟨i, m, c, f, hd, nx, L, K, hi, rfl, hm, A, PL, LF, LT, BF, BT, LY, B⟩ := hrel
        have HA := Lib.hid A
        have HPL := Lib.hid PL
        have HF := Lib.hid LF
        have HT := Lib.hid LT
        have HBF := Lib.hid BF
        have HBT := Lib.hid BT
        have HLY := Lib.hid LY
        have HB := Lib.hid B
        clear A PL LF LT BF BT LY B
        by_cases hlt2 : i < len
        · obtain ⟨ab, aoff, o, rfl, hoc, ho1, ho2⟩ := isRow_ati HS.out hlt2
          have hoc2 : wr.cell? ⟨ab, aoff + i, none⟩ = some (.int .i64 o) := cell_later HB.out hoc
          obtain ⟨y0, y1, y2⟩ := HLY.out.cells
          have hltb := HLY.out.lt
          have hLl : L.length ≤ S := HPL.out.len_le
          have hKl : K.length ≤ S := HPL.out.lenK_le
          have hLL : L.length ≤ 100000 := by omega
          have hKK : K.length ≤ 100000 := by omega
          clear hoc
          go_wp2_with fail
          have hlb : ∀ W : World, LyB W b 1 S 1 → W.cell? ⟨b, 0, none⟩ = some (.int .i64 1) ∧ W.cell? ⟨b, 1, none⟩ = some (.int .i64 (S : Int)) ∧ W.cell? ⟨b, 2, none⟩ = some (.int .i64 1) := fun W h => h.cells
          have HL1 := Lib.hid HLY.out.drew
          have HA1 := Lib.hid HA.out.drew
          have HB1 := Lib.hid HB.out.drew
          have HF1 := Lib.hid HF.out.drew
          have HT1 := Lib.hid HT.out.drew
          go_region_held3 (fun W => LyB W b 1 S 1) (first | (with_reducible assumption) | (with_reducible exact HL1.out) | (with_reducible exact LyB.below (by assumption) hb1) | (with_reducible exact HL3.out))
            (first
              | (go_at_call 11; ((with_reducible refine (pm_of p _).mono ?_); rintro e w2 ⟨rfl, hb1⟩; have HA1 := Lib.hid (SA.below HA1.out hb1); have HB1 := Lib.hid (keepB HB1.out hb1); have HF1 := Lib.hid (LI.below HF1.out hb1); have HT1 := Lib.hid (LI.below HT1.out hb1)))
              | (go_at_call 10; ((with_reducible refine (goL (V := 1) (T := 1) (t := 1) (S := S) HR.out rfl HN.out HN2.out HA1.out HPL.out.chain HPL.out.lt hLl (by omega)).mono ?_); rintro e w3 ⟨v3, c3, rfl, hli, hbk3, A3, _, _, O3⟩; have HL3 := Lib.hid (LyB.only (by assumption) HA1.out.1 O3); have HB3 := Lib.hid (Only.below HB1.out O3 HB1.out.size hpw hgw); have HF3 := Lib.hid (LI.onlyA HF1.out HA1.out.1 O3); have HT3 := Lib.hid (LI.onlyA HT1.out HA1.out.1 O3); have HV3 := Lib.hid hli; have HA3 := Lib.hid A3))
              | (go_at_call 9; ((with_reducible refine (same_yes HV3.out HF3.out hLL).mono ?_); rintro e w4 ⟨rfl, hb1⟩; have HLY4 := Lib.hid (LyB.below HL3.out hb1); have HB4 := Lib.hid (keepB HB3.out hb1); have HA4 := Lib.hid (SA.below HA3.out hb1); have HF4 := Lib.hid (LI.below HF3.out hb1); have HT4 := Lib.hid (LI.below HT3.out hb1))))
          clear HV3 HA3 A3 O3 HF3 HT3 HB3 HL3 hli hbk3 hb1 HL1 HA1 HB1 HF1 HT1 HA HF HT HLY HB y0 y1 y2 hltb hoc2
          have HA := HA4
          have HF := HF4
          have HT := HT4
          have HLY := HLY4
          have HB := HB4
          clear HA4 HF4 HT4 HLY4 HB4
          obtain ⟨y0, y1, y2⟩ := HLY.out.cells
          have hltb := HLY.out.lt
          by_cases hgive : 0 ≤ o ∧ 0 < K.length
          · obtain ⟨ho, hK⟩ := hgive
            obtain ⟨ta, tc, rfl, ht1, ht2⟩ := HT.out.shape
            have hKne : K ≠ [] := by rintro rfl; simp at hK
            obtain ⟨tb, toff, tc', e, _, _, _, hcell⟩ := HT.out.open_ hKne
            injection e with e1 _ e3
            subst e1 e3
            obtain ⟨on, rfl⟩ := Int.eq_ofNat_of_zero_le ho
            obtain ⟨j, hj⟩ : ∃ j, j = on % K.length := ⟨_, rfl⟩
            have hjK : j < K.length := by rw [hj]; exact Nat.mod_lt _ hK
            have htm : ((on : Nat) : Int).tmod ((K.length : Nat) : Int) = ((j : Nat) : Int) := by rw [Int.tmod_eq_emod_of_nonneg (by omega), hj]; rfl
            have hwj : IntKind.i64.wrap ((j : Nat) : Int) = ((j : Nat) : Int) := IntWalk.i64_in _ (by omega)
            have hnz : ¬ ((K.length : Nat) : Int) = 0 := by omega
            have hK2 : (0 : Int) < (K.length : Int) := by omega
            have hjK2 : ((j : Nat) : Int) < ((K.length : Nat) : Int) := by omega
            have hj0 : (0 : Int) ≤ ((j : Nat) : Int) := by omega
            obtain ⟨s, hs⟩ : ∃ s, K[j]? = some s := ⟨_, List.getElem?_eq_getElem hjK⟩
            have hsK : s ∈ K := List.mem_of_getElem? hs
            have hsc := hcell j s hs
            have hsS : s < S := HPL.out.ltK s hsK
            have HSK := Lib.hid hsK
            clear hcell hs hsK hj ht1 ht2 hKne
            go_wp2_with fail
            refine (goN2 (V := 1) (T := 1) (S := S) (s := s) HR.out hsS _).mono ?_; rintro e w5 ⟨q, rfl, hq, G5, hb5⟩
            have hq2 : w.heap.size ≤ q := Nat.le_trans HB.out.size hq
            have HLY5 := Lib.hid (HLY.out.below hb5)
            have HB5 := Lib.hid (keepB HB.out hb5)
            have HF5 := Lib.hid (HF.out.below hb5)
            have HT5 := Lib.hid (HT.out.below hb5)
            have HA5 := Lib.hid (HA.out.below hb5)
            have HG5 := Lib.hid G5
            have hlk : hd.2 ≤ S := HA5.out.2.1.lk
            have htg : hd.1 ≤ 3 * i := HA5.out.2.1.tag
            clear HLY HB HF HT HA G5 hb5 hq y0 y1 y2 hltb hsc
            go_wp2_with fail
            refine (goG (V := 1) (T := 1) (t := 1) HR.out rfl HN.out HN2.out HA5.out HG5.out rfl rfl hsS (by omega) (by omega) (k' := .give1 s hd) (nx' := nx) (hd' := hd) (j := 0) (d := false) (by simp [gvN]) rfl).mono ?_
            rintro e w6 ⟨f6, rfl, A6, G6, O6⟩
            obtain ⟨_, _, _, PP⟩ := HG5.out.some
            have HLY6 := Lib.hid (HLY5.out.onlyT HA5.out.1 PP O6)
            have HB6 := Lib.hid (OnlyT.below HB5.out O6 HB5.out.size hq2 hpw hgw (by simp))
            have HF6 := Lib.hid (HF5.out.onlyT HA5.out.1 PP O6)
            have HT6 := Lib.hid (HT5.out.onlyT HA5.out.1 PP O6)
            have HA6 := Lib.hid A6
            have HG6 := Lib.hid G6
            clear PP A6 G6 O6 HLY5 HB5 HA5 HF5 HT5 HG5
            go_wp2_with fail
            refine (goG (V := 1) (T := 1) (t := 1) HR.out rfl HN.out HN2.out HA6.out HG6.out rfl rfl ⟨hsS, (by omega), hlk⟩ (by omega) (by omega) (k' := .give2 s hd) (nx' := put nx s hd.2) (hd' := hd) (j := 1) (d := false) rfl rfl).mono ?_
            rintro e w7 ⟨f7, rfl, A7, G7, O7⟩
            obtain ⟨_, _, _, PP⟩ := HG6.out.some
            have HLY7 := Lib.hid (HLY6.out.onlyT HA6.out.1 PP O7)
            have HB7 := Lib.hid (OnlyT.below HB6.out O7 HB6.out.size hq2 hpw hgw (by simp))
            have HF7 := Lib.hid (HF6.out.onlyT HA6.out.1 PP O7)
            have HT7 := Lib.hid (HT6.out.onlyT HA6.out.1 PP O7)
            have HA7 := Lib.hid A7
            have HG7 := Lib.hid G7
            clear PP A7 G7 O7 HLY6 HB6 HA6 HF6 HT6 HG6
            go_wp2_with fail
            refine (goG (V := 1) (T := 1) (t := 1) HR.out rfl HN.out HN2.out HA7.out HG7.out rfl rfl ⟨hsS, (by omega), hlk⟩ (by omega) (by omega) (k' := .idle) (nx' := put nx s hd.2) (hd' := (hd.1 + 1, s + 1)) (j := 2) (d := true) (by simp [gvN]) rfl).mono ?_
            rintro e w8 ⟨f8, rfl, A8, G8, O8⟩
            obtain ⟨_, _, _, PP⟩ := HG7.out.some
            have HLY8 := Lib.hid (HLY7.out.onlyT HA7.out.1 PP O8)
            have HB8 := Lib.hid (OnlyT.below HB7.out O8 HB7.out.size hq2 hpw hgw (by simp))
            have HF8 := Lib.hid (HF7.out.onlyT HA7.out.1 PP O8)
            have HT8 := Lib.hid (HT7.out.onlyT HA7.out.1 PP O8)
            have HA8 := Lib.hid A8
            have HG8 := Lib.hid G8
            clear PP A8 G8 O8 HLY7 HB7 HA7 HF7 HT7 HG7
            go_wp2_with fail
            obtain ⟨_, PG⟩ := HG8.out
            refine (give_3 PG).mono ?_; rintro e w9 ⟨rfl, rfl⟩
            have hsl : s ≤ 100000 := by omega
            have hKs : ∀ y ∈ K, y ≤ 100000 := fun y hy => by have := HPL.out.ltK y hy; omega
            have HKs := Lib.hid hKs
            have HPL2 := Lib.hid (HPL.out.give HSK.out)
            clear PG HG8 hKs HSK HPL
            go_wp2_with (at_builtin; refine wpList_cons_li _ rfl _ _ rfl s w8.heap.size rfl (Blk.new w8 3 #[.int .i64 (s : Int)]) rfl (HF8.out.alloc _) hLL ?_)
            intro fv w10 hli10 hg10 hbk10
            have HF10 := Lib.hid hli10
            have hw8 : w.heap.size ≤ w8.heap.size := HB8.out.size
            have HB10 : Hid (Below w.heap.size w w10) := Lib.hid ((HB8.out.alloc hw8 _).grown hg10 (by simp; omega) (fun i hi => by cases hi; exact hw8))
            have hAlt := HA8.out.1.p_lt
            have hAlg := HA8.out.1.g_lt
            have HA10 : Hid (SA w10 p g n cap 1 S (3 * i + 1 + 1 + 1) _ _ _ _ _) := Lib.hid ⟨(HA8.out.1.alloc _).grown hg10 (by intro e; injection e with e; omega) (by intro e; injection e with e; omega), HA8.out.2⟩
            have HLY10 : Hid (LyB w10 b 1 S 1) := Lib.hid (Blk.grown (Blk.alloc HLY8.out _) hg10 (by intro e; injection e with e; have := HLY8.out.lt; omega))
            have HT10 : Hid (LI w10 (.slice (some ⟨tb, toff, none⟩) K.length tc) K) := Lib.hid ((HT8.out.alloc _).keep fun k hk => hg10.block k (by have := HT8.out.lt k hk; simp; omega) (by intro e; injection e with e; have := HT8.out.lt k hk; omega))
            have HBF10 : Hid (∀ k, bk fv = some k → w8.heap.size ≤ k) := Lib.hid hbk10
            clear hli10 hg10 hbk10 HF8 HB8 HA8 HLY8 HT8 hAlt hAlg
            go_wp2_with fail
            refine (without_any HT10.out hKK hsl HKs.out).mono ?_; rintro e w11 ⟨tv, rfl, LT11, BT11, hb11⟩
            have hw10 : w.heap.size ≤ w10.heap.size := HB10.out.size
            have hRel : Hid (SerRel b p g n cap S len w fv tv (.int .i64 ((i : Int) + 1)) w11) := by
              refine Lib.hid ⟨i + 1, _, _, _, _, _, _, _, by omega, by go_num, ?_, ⟨(HA10.out.below hb11).1, HA10.out.2.1.more (by omega), (HA10.out.below hb11).2.2⟩, HPL2.out, HF10.out.below hb11, LT11, fun k hk => Nat.le_trans hw8 (HBF10.out k hk), fun k hk => ⟨Nat.le_trans hw10 (BT11 k hk), fun e => ?_⟩, HLY10.out.below hb11, keepB HB10.out hb11⟩
              · omega
              · have := HF10.out.lt k e
                have := BT11 k hk
                omega
            clear LT11 BT11 hb11 HA10 HF10 HLY10 HT10 HBF10 HB10 HPL2
            go_wp2_with fail
            exact ⟨hRel.out, by simp [intOf]; omega⟩
          · rcases (show o < 0 ∨ (0 ≤ o ∧ K.length = 0) by omega) with ho | ⟨ho, hK0⟩
            · go_wp2_with fail
              refine (goN 1 1 S _).mono ?_; rintro e w5 ⟨q, rfl, hq, P5, hb5⟩
              have hqw : w.heap.size ≤ q := Nat.le_trans HB.out.size hq
              have HLY5 := Lib.hid (HLY.out.below hb5)
              have HTk : Hid (SerTk b q p g n cap S (3 * i) (m + 1 + L.length) w hd nx u7 u8 L K (.int .i64 0) w5) := Lib.hid ⟨0, _, _, .take0, (0, 0), .inl ⟨rfl, rfl, rfl⟩, HA.out.below hb5, P5, HF.out.below hb5, HT.out.below hb5, HLY.out.below hb5, keepB HB.out hb5⟩
              have hlk : hd.2 ≤ S := HA.out.2.1.lk
              have htg : hd.1 ≤ 3 * i := HA.out.2.1.tag
              have hnx : ∀ s, s < S → nx s ≤ S := HA.out.2.1.le
              have HNX := Lib.hid hnx
              clear hnx HLY HB HF HT HA P5 hb5 hq y0 y1 y2 hltb
              obtain ⟨y0, y1, y2⟩ := HLY5.out.cells
              have hltb := HLY5.out.lt
              go_wp2_with fail
              clear y0 y1 y2 hltb HLY5
              go_loopw [15] (fun iv wr => SerTk b q p g n cap S (3 * i) (m + 1 + L.length) w hd nx u7 u8 L K iv wr) (fun iv _ => 3 - (intOf iv).toNat)
              case atStart => exact HTk.out
              case round =>
                clear HTk
                obtain ⟨j, c', f', kk, g0, hj, A, P, LF, LT, LY, B⟩ := hrel
                have HA := Lib.hid A
                have HP := Lib.hid P
                have HF := Lib.hid LF
                have HT := Lib.hid LT
                have HLY := Lib.hid LY
                have HB := Lib.hid B
                clear A P LF LT LY B
                rcases hj with ⟨rfl, rfl, rfl⟩ | ⟨rfl, rfl, rfl, hd0⟩ | ⟨rfl, rfl, rfl, hd0⟩
                · by_cases h0 : hd.2 = 0
                  · have HH := Lib.hid h0
                    clear h0
                    go_wp2_with fail
                    refine (goT (V := 1) (T := 1) (t := 1) HR.out rfl HN.out HN2.out HA.out HP.out rfl trivial (by omega) (by omega) (k' := .idle) (g' := hd) (hd' := hd) (j := 0) (d := true) (by simp [tkN, HH.out]) rfl).mono ?_
                    rintro e w6 ⟨f6, rfl, A6, P6, O6⟩
                    obtain ⟨_, _, _, PP⟩ := HP.out.some
                    have HLY6 := Lib.hid (HLY.out.onlyT HA.out.1 PP O6)
                    have HB6 := Lib.hid (OnlyT.below HB.out O6 HB.out.size hqw hpw hgw (by simp))
                    have HF6 := Lib.hid (HF.out.onlyT HA.out.1 PP O6)
                    have HT6 := Lib.hid (HT.out.onlyT HA.out.1 PP O6)
                    have HA6 := Lib.hid A6
                    have HP6 := Lib.hid P6
                    clear PP A6 P6 O6 HLY HB HA HF HT HP
                    cases L with
                    | cons x L => exact absurd HH.out (by have := HPL.out.chain.1; omega)
                    | nil =>
                      obtain ⟨fa, fc, rfl, _, _⟩ := HF6.out.shape
                      have hl1 : ([] : List Nat).length = 0 := rfl
                      go_wp2_with fail
                      refine (goS (V := 1) (T := 1) (S := S) HR.out HP6.out (by omega) hlk (s := 0) (d := false) (by rw [HH.out]) (by simp [HH.out])).mono ?_; rintro e w7 ⟨rfl, hb7⟩
                      have hRel : Hid (SerRel b p g n cap S len w (.slice fa 0 fc) u8 (.int .i64 ((i : Int) + 1)) w7) :=
                        Lib.hid ⟨i + 1, _, _, _, _, _, [], K, by omega, by go_num, by simp; omega, ⟨(HA6.out.below hb7).1, HA6.out.2.1.more (by omega), (HA6.out.below hb7).2.2⟩, HPL.out, HF6.out.below hb7, HT6.out.below hb7, HBF.out, HBT.out, HLY6.out.below hb7, keepB HB6.out hb7⟩
                      clear hb7 HA6 HF6 HT6 HLY6 HB6 HP6
                      go_wp2_with fail
                      exact ⟨hRel.out, by simp [intOf]; omega⟩
                  · go_wp2_with fail
                    refine (goT (V := 1) (T := 1) (t := 1) HR.out rfl HN.out HN2.out HA.out HP.out rfl trivial (by omega) (by omega) (k' := .take1 hd) (g' := hd) (hd' := hd) (j := 0) (d := false) (by simp [tkN, h0]) rfl).mono ?_
                    rintro e w6 ⟨f6, rfl, A6, P6, O6⟩
                    obtain ⟨_, _, _, PP⟩ := HP.out.some
                    have hTk2 : Hid (SerTk b q p g n cap S (3 * i) (m + 1 + L.length) w hd nx u7 u8 L K (.int .i64 1) w6) := Lib.hid ⟨1, _, _, _, _, .inr (.inl ⟨rfl, rfl, rfl, h0⟩), A6, P6, HF.out.onlyT HA.out.1 PP O6, HT.out.onlyT HA.out.1 PP O6, HLY.out.onlyT HA.out.1 PP O6, OnlyT.below HB.out O6 HB.out.size hqw hpw hgw (by simp)⟩
                    clear PP A6 P6 O6 HLY HB HA HF HT HP h0
                    go_wp2_with fail
                    exact ⟨hTk2.out, by simp [intOf]⟩
                · go_wp2_with fail
                  refine (goT (V := 1) (T := 1) (t := 1) HR.out rfl HN.out HN2.out HA.out HP.out rfl ⟨by omega, by omega, hlk⟩ (by omega) (by omega) (k' := .take2 hd (nx (hd.2 - 1))) (g' := hd) (hd' := hd) (j := 0) (d := false) rfl rfl).mono ?_
                  rintro e w6 ⟨f6, rfl, A6, P6, O6⟩
                  obtain ⟨_, _, _, PP⟩ := HP.out.some
                  have hTk2 : Hid (SerTk b q p g n cap S (3 * i) (m + 1 + L.length) w hd nx u7 u8 L K (.int .i64 2) w6) := Lib.hid ⟨2, _, _, _, _, .inr (.inr ⟨rfl, rfl, rfl, hd0⟩), A6, P6, HF.out.onlyT HA.out.1 PP O6, HT.out.onlyT HA.out.1 PP O6, HLY.out.onlyT HA.out.1 PP O6, OnlyT.below HB.out O6 HB.out.size hqw hpw hgw (by simp)⟩
                  clear PP A6 P6 O6 HLY HB HA HF HT HP hd0
                  go_wp2_with fail
                  exact ⟨hTk2.out, by simp [intOf]⟩
                · go_wp2_with fail
                  refine (goT (V := 1) (T := 1) (t := 1) HR.out rfl HN.out HN2.out HA.out HP.out rfl ⟨by omega, by omega, hlk, HNX.out _ (by omega)⟩ (by omega) (by omega) (k' := .idle) (g' := hd) (hd' := (hd.1 + 1, nx (hd.2 - 1))) (j := 2) (d := true) (by simp [tkN]) rfl).mono ?_
                  rintro e w6 ⟨f6, rfl, A6, P6, O6⟩
                  obtain ⟨_, _, _, PP⟩ := HP.out.some
                  have HLY6 := Lib.hid (HLY.out.onlyT HA.out.1 PP O6)
                  have HB6 := Lib.hid (OnlyT.below HB.out O6 HB.out.size hqw hpw hgw (by simp))
                  have HF6 := Lib.hid (HF.out.onlyT HA.out.1 PP O6)
                  have HT6 := Lib.hid (HT.out.onlyT HA.out.1 PP O6)
                  have HA6 := Lib.hid A6
                  have HP6 := Lib.hid P6
                  clear PP A6 P6 O6 HLY HB HA HF HT HP
                  cases L with
                  | nil => exact absurd HPL.out.none hd0
                  | cons x L =>
                    obtain ⟨hx, PL2⟩ := HPL.out.take
                    have hxn : hd.2 - 1 = x := by omega
                    rw [hxn] at HA6
                    have HPL2 := Lib.hid PL2
                    have HX := Lib.hid hx
                    have hxS : x < S := HPL.out.lt x (List.mem_cons_self ..)
                    clear PL2 hx HPL hd0
                    obtain ⟨fb, foff, fc, rfl, _, hf2, hf3, hcell⟩ := HF6.out.open_ (by simp)
                    have hc0 : w6.cell? ⟨fb, foff, none⟩ = some (.int .i64 (x : Int)) := hcell 0 x rfl
                    have hc0' := hc0
                    clear hcell
                    go_wp2_with fail
                    refine (goS (V := 1) (T := 1) (S := S) HR.out HP6.out (by omega) hlk (s := x) (d := true) hxn (by simp [HX.out])).mono ?_; rintro e w7 ⟨rfl, hb7⟩
                    have hc7 : w7.cell? ⟨fb, foff, none⟩ = some (.int .i64 (x : Int)) := cell_later hb7 hc0
                    have HA7 := Lib.hid (HA6.out.below hb7)
                    have HF7 := Lib.hid (HF6.out.below hb7)
                    have HT7 := Lib.hid (HT6.out.below hb7)
                    have HLY7 := Lib.hid (HLY6.out.below hb7)
                    have HB7 := Lib.hid (keepB HB6.out hb7)
                    clear hb7 HA6 HF6 HT6 HLY6 HB6 HP6 hc0 hc0'
                    go_wp2_with fail
                    have hf4 : L.length + 1 ≤ fc := by simpa using hf2
                    have HF8 := Lib.hid HF7.out.tail
                    have HTl : Hid (LI (w7.alloc (.cells #[.int .i64 (x : Int)] 3)).drew u8 K) := Lib.hid (HT7.out.alloc _).drew
                    have hcn : (w7.alloc (.cells #[.int .i64 (x : Int)] 3)).drew.cell? ((⟨w7.heap.size, 0, none⟩ : Addr).add 0) = some (.int .i64 (x : Int)) := cell_new1 w7 _ _
                    have hKK' : (K : List Nat).length ≤ 100000 := hKK
                    have hf5 : (1 : Int) ≤ (fc : Int) := by omega
                    have hf6 : ((L.length : Nat) : Int) + 1 ≤ (fc : Int) := by omega
                    have hf7 : (1 : Int) ≤ ((L.length : Nat) : Int) + 1 := by omega
                    clear hf2
                    by_cases hfc : fc = 1
                    · subst hfc
                      obtain rfl : L = [] := List.eq_nil_of_length_eq_zero (by omega)
                      go_region_held3 (fun _ => True) (exact True.intro)
                        ((refine step_append_li (v := u8) (by rfl) _ _ (by rfl) rfl HTl.out ⟨w7.heap.size, 0, none⟩ 1 x rfl hcn hKK' ?_; intro tv w8 hli8 hg8 hbk8))
                      have hRel : Hid (SerRel b p g n cap S len w (.slice (some ⟨fb, foff, none⟩) 0 0) tv (.int .i64 ((i : Int) + 1)) w8) := by
                        have hr := ser_take (b := b) (len := len) (i := i) (x := x) (w := w) (by omega) (by simp at hLl ⊢; omega) (by omega) HA7.out HPL2.out HF8.out (fun k hk => bk_tail hk) HT7.out (fun k hk => HF7.out.lt k hk) HBF.out HBT.out HLY7.out HB7.out hli8 hg8 hbk8
                        rw [if_pos rfl] at hr
                        exact Lib.hid hr
                      clear hli8 hg8 hbk8 HA7 HF7 HT7 HLY7 HB7 HF8 HTl hcn hc7 HPL2 HX
                      go_wp2_with fail
                      exact ⟨hRel.out, by simp [intOf]; omega⟩
                    · go_region_held3 (fun _ => True) (exact True.intro)
                        ((refine step_append_li (v := u8) (by rfl) _ _ (by rfl) rfl HTl.out ⟨w7.heap.size, 0, none⟩ 1 x rfl hcn hKK' ?_; intro tv w8 hli8 hg8 hbk8))
                      have hRel : Hid (SerRel b p g n cap S len w (.slice (some ⟨fb, foff + 1, none⟩) L.length (fc - 1)) tv (.int .i64 ((i : Int) + 1)) w8) := by
                        have hr := ser_take (b := b) (len := len) (i := i) (x := x) (w := w) (by omega) (by simp at hLl ⊢; omega) (by omega) HA7.out HPL2.out HF8.out (fun k hk => bk_tail hk) HT7.out (fun k hk => HF7.out.lt k hk) HBF.out HBT.out HLY7.out HB7.out hli8 hg8 hbk8
                        rw [if_neg hfc] at hr
                        exact Lib.hid hr
                      clear hli8 hg8 hbk8 HA7 HF7 HT7 HLY7 HB7 HF8 HTl hcn hc7 HPL2 HX
                      go_wp2_with fail
                      exact ⟨hRel.out, by simp [intOf]; omega⟩
            · obtain rfl : K = [] := List.eq_nil_of_length_eq_zero hK0
              obtain ⟨ta, tc, rfl, ht1, ht2⟩ := HT.out.shape
              have HT2 : Hid (LI w4 (.slice ta 0 tc) []) := HT
              clear HT ht1 ht2
              have HT := HT2
              clear HT2 hK0
              have hl0 : ([] : List Nat).length = 0 := rfl
              go_wp2_with fail
              generalize Value.slice ta 0 tc = u8 at HT HBT ⊢
              refine (goN 1 1 S _).mono ?_; rintro e w5 ⟨q, rfl, hq, P5, hb5⟩
              have hqw : w.heap.size ≤ q := Nat.le_trans HB.out.size hq
              have HLY5 := Lib.hid (HLY.out.below hb5)
              have HTk : Hid (SerTk b q p g n cap S (3 * i) (m + 1 + L.length) w hd nx u7 u8 L [] (.int .i64 0) w5) := Lib.hid ⟨0, _, _, .take0, (0, 0), .inl ⟨rfl, rfl, rfl⟩, HA.out.below hb5, P5, HF.out.below hb5, HT.out.below hb5, HLY.out.below hb5, keepB HB.out hb5⟩
              have hlk : hd.2 ≤ S := HA.out.2.1.lk
              have htg : hd.1 ≤ 3 * i := HA.out.2.1.tag
              have hnx : ∀ s, s < S → nx s ≤ S := HA.out.2.1.le
              have HNX := Lib.hid hnx
              clear hnx HLY HB HF HT HA P5 hb5 hq y0 y1 y2 hltb
              obtain ⟨y0, y1, y2⟩ := HLY5.out.cells
              have hltb := HLY5.out.lt
              go_wp2_with fail
              clear y0 y1 y2 hltb HLY5
              go_loopw [15] (fun iv wr => SerTk b q p g n cap S (3 * i) (m + 1 + L.length) w hd nx u7 u8 L [] iv wr) (fun iv _ => 3 - (intOf iv).toNat)
              case atStart => exact HTk.out
              case round =>
                clear HTk
                obtain ⟨j, c', f', kk, g0, hj, A, P, LF, LT, LY, B⟩ := hrel
                have HA := Lib.hid A
                have HP := Lib.hid P
                have HF := Lib.hid LF
                have HT := Lib.hid LT
                have HLY := Lib.hid LY
                have HB := Lib.hid B
                clear A P LF LT LY B
                rcases hj with ⟨rfl, rfl, rfl⟩ | ⟨rfl, rfl, rfl, hd0⟩ | ⟨rfl, rfl, rfl, hd0⟩
                · by_cases h0 : hd.2 = 0
                  · have HH := Lib.hid h0
                    clear h0
                    go_wp2_with fail
                    refine (goT (V := 1) (T := 1) (t := 1) HR.out rfl HN.out HN2.out HA.out HP.out rfl trivial (by omega) (by omega) (k' := .idle) (g' := hd) (hd' := hd) (j := 0) (d := true) (by simp [tkN, HH.out]) rfl).mono ?_
                    rintro e w6 ⟨f6, rfl, A6, P6, O6⟩
                    obtain ⟨_, _, _, PP⟩ := HP.out.some
                    have HLY6 := Lib.hid (HLY.out.onlyT HA.out.1 PP O6)
                    have HB6 := Lib.hid (OnlyT.below HB.out O6 HB.out.size hqw hpw hgw (by simp))
                    have HF6 := Lib.hid (HF.out.onlyT HA.out.1 PP O6)
                    have HT6 := Lib.hid (HT.out.onlyT HA.out.1 PP O6)
                    have HA6 := Lib.hid A6
                    have HP6 := Lib.hid P6
                    clear PP A6 P6 O6 HLY HB HA HF HT HP
                    cases L with
                    | cons x L => exact absurd HH.out (by have := HPL.out.chain.1; omega)
                    | nil =>
                      obtain ⟨fa, fc, rfl, _, _⟩ := HF6.out.shape
                      have hl1 : ([] : List Nat).length = 0 := rfl
                      go_wp2_with fail
                      refine (goS (V := 1) (T := 1) (S := S) HR.out HP6.out (by omega) hlk (s := 0) (d := false) (by rw [HH.out]) (by simp [HH.out])).mono ?_; rintro e w7 ⟨rfl, hb7⟩
                      have hRel : Hid (SerRel b p g n cap S len w (.slice fa 0 fc) u8 (.int .i64 ((i : Int) + 1)) w7) :=
                        Lib.hid ⟨i + 1, _, _, _, _, _, [], [], by omega, by go_num, by simp; omega, ⟨(HA6.out.below hb7).1, HA6.out.2.1.more (by omega), (HA6.out.below hb7).2.2⟩, HPL.out, HF6.out.below hb7, HT6.out.below hb7, HBF.out, HBT.out, HLY6.out.below hb7, keepB HB6.out hb7⟩
                      clear hb7 HA6 HF6 HT6 HLY6 HB6 HP6
                      go_wp2_with fail
                      exact ⟨hRel.out, by simp [intOf]; omega⟩
                  · go_wp2_with fail
                    refine (goT (V := 1) (T := 1) (t := 1) HR.out rfl HN.out HN2.out HA.out HP.out rfl trivial (by omega) (by omega) (k' := .take1 hd) (g' := hd) (hd' := hd) (j := 0) (d := false) (by simp [tkN, h0]) rfl).mono ?_
                    rintro e w6 ⟨f6, rfl, A6, P6, O6⟩
                    obtain ⟨_, _, _, PP⟩ := HP.out.some
                    have hTk2 : Hid (SerTk b q p g n cap S (3 * i) (m + 1 + L.length) w hd nx u7 u8 L [] (.int .i64 1) w6) := Lib.hid ⟨1, _, _, _, _, .inr (.inl ⟨rfl, rfl, rfl, h0⟩), A6, P6, HF.out.onlyT HA.out.1 PP O6, HT.out.onlyT HA.out.1 PP O6, HLY.out.onlyT HA.out.1 PP O6, OnlyT.below HB.out O6 HB.out.size hqw hpw hgw (by simp)⟩
                    clear PP A6 P6 O6 HLY HB HA HF HT HP h0
                    go_wp2_with fail
                    exact ⟨hTk2.out, by simp [intOf]⟩
                · go_wp2_with fail
                  refine (goT (V := 1) (T := 1) (t := 1) HR.out rfl HN.out HN2.out HA.out HP.out rfl ⟨by omega, by omega, hlk⟩ (by omega) (by omega) (k' := .take2 hd (nx (hd.2 - 1))) (g' := hd) (hd' := hd) (j := 0) (d := false) rfl rfl).mono ?_
                  rintro e w6 ⟨f6, rfl, A6, P6, O6⟩
                  obtain ⟨_, _, _, PP⟩ := HP.out.some
                  have hTk2 : Hid (SerTk b q p g n cap S (3 * i) (m + 1 + L.length) w hd nx u7 u8 L [] (.int .i64 2) w6) := Lib.hid ⟨2, _, _, _, _, .inr (.inr ⟨rfl, rfl, rfl, hd0⟩), A6, P6, HF.out.onlyT HA.out.1 PP O6, HT.out.onlyT HA.out.1 PP O6, HLY.out.onlyT HA.out.1 PP O6, OnlyT.below HB.out O6 HB.out.size hqw hpw hgw (by simp)⟩
                  clear PP A6 P6 O6 HLY HB HA HF HT HP hd0
                  go_wp2_with fail
                  exact ⟨hTk2.out, by simp [intOf]⟩
                · go_wp2_with fail
                  refine (goT (V := 1) (T := 1) (t := 1) HR.out rfl HN.out HN2.out HA.out HP.out rfl ⟨by omega, by omega, hlk, HNX.out _ (by omega)⟩ (by omega) (by omega) (k' := .idle) (g' := hd) (hd' := (hd.1 + 1, nx (hd.2 - 1))) (j := 2) (d := true) (by simp [tkN]) rfl).mono ?_
                  rintro e w6 ⟨f6, rfl, A6, P6, O6⟩
                  obtain ⟨_, _, _, PP⟩ := HP.out.some
                  have HLY6 := Lib.hid (HLY.out.onlyT HA.out.1 PP O6)
                  have HB6 := Lib.hid (OnlyT.below HB.out O6 HB.out.size hqw hpw hgw (by simp))
                  have HF6 := Lib.hid (HF.out.onlyT HA.out.1 PP O6)
                  have HT6 := Lib.hid (HT.out.onlyT HA.out.1 PP O6)
                  have HA6 := Lib.hid A6
                  have HP6 := Lib.hid P6
                  clear PP A6 P6 O6 HLY HB HA HF HT HP
                  cases L with
                  | nil => exact absurd HPL.out.none hd0
                  | cons x L =>
                    obtain ⟨hx, PL2⟩ := HPL.out.take
                    have hxn : hd.2 - 1 = x := by omega
                    rw [hxn] at HA6
                    have HPL2 := Lib.hid PL2
                    have HX := Lib.hid hx
                    have hxS : x < S := HPL.out.lt x (List.mem_cons_self ..)
                    clear PL2 hx HPL hd0
                    obtain ⟨fb, foff, fc, rfl, _, hf2, hf3, hcell⟩ := HF6.out.open_ (by simp)
                    have hc0 : w6.cell? ⟨fb, foff, none⟩ = some (.int .i64 (x : Int)) := hcell 0 x rfl
                    have hc0' := hc0
                    clear hcell
                    go_wp2_with fail
                    refine (goS (V := 1) (T := 1) (S := S) HR.out HP6.out (by omega) hlk (s := x) (d := true) hxn (by simp [HX.out])).mono ?_; rintro e w7 ⟨rfl, hb7⟩
                    have hc7 : w7.cell? ⟨fb, foff, none⟩ = some (.int .i64 (x : Int)) := cell_later hb7 hc0
                    have HA7 := Lib.hid (HA6.out.below hb7)
                    have HF7 := Lib.hid (HF6.out.below hb7)
                    have HT7 := Lib.hid (HT6.out.below hb7)
                    have HLY7 := Lib.hid (HLY6.out.below hb7)
                    have HB7 := Lib.hid (keepB HB6.out hb7)
                    clear hb7 HA6 HF6 HT6 HLY6 HB6 HP6 hc0 hc0'
                    go_wp2_with fail
                    have hf4 : L.length + 1 ≤ fc := by simpa using hf2
                    have HF8 := Lib.hid HF7.out.tail
                    have HTl : Hid (LI (w7.alloc (.cells #[.int .i64 (x : Int)] 3)).drew u8 []) := Lib.hid (HT7.out.alloc _).drew
                    have hcn : (w7.alloc (.cells #[.int .i64 (x : Int)] 3)).drew.cell? ((⟨w7.heap.size, 0, none⟩ : Addr).add 0) = some (.int .i64 (x : Int)) := cell_new1 w7 _ _
                    have hKK' : ([] : List Nat).length ≤ 100000 := hKK
                    have hf5 : (1 : Int) ≤ (fc : Int) := by omega
                    have hf6 : ((L.length : Nat) : Int) + 1 ≤ (fc : Int) := by omega
                    have hf7 : (1 : Int) ≤ ((L.length : Nat) : Int) + 1 := by omega
                    clear hf2
                    by_cases hfc : fc = 1
                    · subst hfc
                      obtain rfl : L = [] := List.eq_nil_of_length_eq_zero (by omega)
                      go_region_held3 (fun _ => True) (exact True.intro)
                        ((refine step_append_li (v := u8) (by rfl) _ _ (by rfl) rfl HTl.out ⟨w7.heap.size, 0, none⟩ 1 x rfl hcn hKK' ?_; intro tv w8 hli8 hg8 hbk8))
                      have hRel : Hid (SerRel b p g n cap S len w (.slice (some ⟨fb, foff, none⟩) 0 0) tv (.int .i64 ((i : Int) + 1)) w8) := by
                        have hr := ser_take (b := b) (len := len) (i := i) (x := x) (w := w) (by omega) (by simp at hLl ⊢; omega) (by omega) HA7.out HPL2.out HF8.out (fun k hk => bk_tail hk) HT7.out (fun k hk => HF7.out.lt k hk) HBF.out HBT.out HLY7.out HB7.out hli8 hg8 hbk8
                        rw [if_pos rfl] at hr
                        exact Lib.hid hr
                      clear hli8 hg8 hbk8 HA7 HF7 HT7 HLY7 HB7 HF8 HTl hcn hc7 HPL2 HX
                      go_wp2_with fail
                      exact ⟨hRel.out, by simp [intOf]; omega⟩
                    · go_region_held3 (fun _ => True) (exact True.intro)
                        ((refine step_append_li (v := u8) (by rfl) _ _ (by rfl) rfl HTl.out ⟨w7.heap.size, 0, none⟩ 1 x rfl hcn hKK' ?_; intro tv w8 hli8 hg8 hbk8))
                      have hRel : Hid (SerRel b p g n cap S len w (.slice (some ⟨fb, foff + 1, none⟩) L.length (fc - 1)) tv (.int .i64 ((i : Int) + 1)) w8) := by
                        have hr := ser_take (b := b) (len := len) (i := i) (x := x) (w := w) (by omega) (by simp at hLl ⊢; omega) (by omega) HA7.out HPL2.out HF8.out (fun k hk => bk_tail hk) HT7.out (fun k hk => HF7.out.lt k hk) HBF.out HBT.out HLY7.out HB7.out hli8 hg8 hbk8
                        rw [if_neg hfc] at hr
                        exact Lib.hid hr
                      clear hli8 hg8 hbk8 HA7 HF7 HT7 HLY7 HB7 HF8 HTl hcn hc7 HPL2 HX
                      go_wp2_with fail
                      exact ⟨hRel.out, by simp [intOf]; omega⟩
        · have hil : i = len := by omega
          subst hil
          clear HA HPL HF HT HBF HBT HLY
          go_wp2_with fail
          refine (awake_any _).mono ?_; rintro e w3 ⟨rfl, hb3⟩
          go_wp2_with fail
          go_ret
          exact ⟨rfl, keepB HB.out hb3⟩
end Go.Proofs.Ytgjlilcljefbfaa
