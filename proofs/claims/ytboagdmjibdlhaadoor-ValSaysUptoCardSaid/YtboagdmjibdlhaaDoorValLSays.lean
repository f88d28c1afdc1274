/- Walk of ValSays. -/
import Derived.Test.YtboagdmjibdlhaaDoorValU
namespace Go.Proofs.YtboagdmjibdlhaaDoor
set_option maxRecDepth 100000
open Go.RowKit

theorem valSays_long (x : Raw) (a : Option Addr) (len cap : Nat) (w : World) (h60 : (60 : Int) < (len : Int)) :
    Calls Tryd.prog 3 #[x.val, .slice a len cap] w fun e w' => e = .returned (.bool true) ∧ Below w.heap.size w w' := by
  obtain ⟨k, n, s, r⟩ := x
  simp only [Raw.val, Raw.cs]
  go_enter Tryd.func3, Tryd.ntmps3
  go_wp2_with fail
  refine (awake_any _).mono ?_; rintro e w3 ⟨rfl, hb3⟩
  go_wp2_with fail
  go_ret
  exact ⟨rfl, keepB ((Below.refl _ _).alloc (Nat.le_refl _) _) hb3⟩

theorem cat_any (l m : List UInt8) (h : l.length + m.length ≤ 1000000000) : (∀ W : World, (Op.stringOp .add ⟨l.toArray⟩ ⟨m.toArray⟩).run Tryd.prog W = .ok (.string ⟨(l ++ m).toArray⟩) W) ∧ ¬ 9223372036854775807 < ((⟨l.toArray⟩ : ByteArray).size + (⟨m.toArray⟩ : ByteArray).size) := by
  have h1 : (⟨l.toArray⟩ : ByteArray).size = l.length := by show l.toArray.size = _; simp
  have h2 : (⟨m.toArray⟩ : ByteArray).size = m.length := by show m.toArray.size = _; simp
  refine ⟨fun W => ?_, by omega⟩
  rw [run_string_add_sum W _ _ (by omega), ByteArray.mk_append_mk]
theorem mk_list (s : ByteArray) : (⟨s.data.toList.toArray⟩ : ByteArray) = s := by
  obtain ⟨⟨l⟩⟩ := s
  rfl
/-- Two texts, one behind the other, told by one name. -/
theorem cat_to {a b c : ByteArray} (h : c.data.toList = a.data.toList ++ b.data.toList) (hl : a.data.toList.length + b.data.toList.length ≤ 1000000000) :
    (∀ W : World, (Op.stringOp .add a b).run Tryd.prog W = .ok (.string c) W) ∧ ¬ 9223372036854775807 < (a.size + b.size) := by
  have k := cat_any a.data.toList b.data.toList hl
  rw [← h, mk_list, mk_list, mk_list] at k
  exact k

/-- What holds at each round's head of ValSays. -/
def WantRel (w : World) (q : Nat → Raw) (n : Nat) (want i : Value) (wr : World) : Prop :=
  ∃ (k : Nat) (b : ByteArray), k ≤ n ∧ i = .int .i64 k ∧ want = .string b ∧ b.data.toList = wantL q k ∧ Below w.heap.size w wr

set_option maxHeartbeats 8000000 in
theorem valSays_walk (x : Raw) (hx : x.fit64) (a : Option Addr) (len cap : Nat) (q : Nat → Raw) (w : World) (hq : IsRaws w a len q) (hP : Pows w) (hqf : ∀ k, k < len → (q k).fit64) (hl : len ≤ 60 → (wantL q len).length + (textA x.atom).data.toList.length ≤ 100000000) :
    Calls Tryd.prog 3 #[x.val, .slice a len cap] w fun e w' => e = .returned (.bool true) ∧ Below w.heap.size w w' := by
  by_cases h60 : (60 : Int) < (len : Int)
  · exact valSays_long x a len cap w h60
  have hlen : len ≤ 60 := by omega
  have hll := hl hlen
  clear hl
  have HQ := Lib.hid hq; clear hq
  have HP := Lib.hid hP; clear hP
  have MX := Lib.hid (made_any x)
  have TX := Lib.hid (text_any x hx)
  have SX := Lib.hid (say_atom x hx (by omega))
  have HL := Lib.hid (fun w h => list_any a len cap q w hlen h)
  have SL := Lib.hid (fun a c w hp h => say_list a len c q hlen hqf (by omega) w hp h)
  have SP := Lib.hid (fun g a c w hp h h' => say_pair g a len c q x hlen hqf hx (by omega) w hp h h')
  have HT := Lib.hid (fun k hk => text_any (q k) (hqf k hk))
  have hkind := Tr.val_kind (.one x.atom)
  simp only [Tr.val] at hkind
  have hm := fun k (hk : k ≤ len) => wantL_le q hk
  obtain ⟨tx, htx⟩ : ∃ tx, textA x.atom = tx := ⟨_, rfl⟩
  rw [htx] at TX SX SP hll
  generalize x.atom.val = v at *
  clear htx hqf hx
  obtain ⟨xk, xn, xs, xr⟩ := x
  simp only [Raw.val, Raw.cs] at MX TX SX SP ⊢
  go_enter Tryd.func3, Tryd.ntmps3
  go_wp2_with fail
  have B0 := Lib.hid ((Below.refl w.heap.size w).alloc (Nat.le_refl _) (.cells #[.int .i64 xk, .int .i64 xn, .string xs, .int .i32 xr] 23))
  have k0 := Blk.new w 23 #[.int .i64 xk, .int .i64 xn, .string xs, .int .i32 xr]
  generalize hA : w.alloc (.cells #[.int .i64 xk, .int .i64 xn, .string xs, .int .i32 xr] 23) = W at *
  have HA := Lib.hid hA; clear hA
  have K0 := Lib.hid k0; clear k0
  go_loopw [5, 14] (fun want i wr => WantRel W q len want i wr) (fun _ i _ => len - (intOf i).toNat)
  case atStart => exact ⟨0, { data := #[40] }, Nat.zero_le _, rfl, rfl, rfl, Below.refl _ _⟩
  case round =>
    obtain ⟨k, b, hk, rfl, rfl, hbk, B⟩ := hrel
    by_cases hlt : k < len
    · obtain ⟨bl, off, rfl, hc⟩ := HQ.out (by omega)
      obtain ⟨c0, c1, c2, c3⟩ := ((hc k hlt).later B0.out).later B
      have T := Lib.hid (HT.out k hlt)
      have hm1 := hm (k + 1) (by omega)
      have hbl : b.data.toList.length = (wantL q k).length := by rw [hbk]
      have i0' : (0 : Int) ≤ (k : Int) := Int.natCast_nonneg _
      have i1' : (k : Int) < (len : Int) := by omega
      clear hc HQ
      by_cases h0 : k = 0
      · subst h0
        have hw := wantL_one q
        obtain ⟨ty, hty⟩ : ∃ ty, textA (q 0).atom = ty := ⟨_, rfl⟩
        rw [hty] at hw T
        obtain ⟨c, hcc⟩ : ∃ c : ByteArray, c.data.toList = wantL q (0 + 1) := ⟨⟨(wantL q (0 + 1)).toArray⟩, by simp⟩
        obtain ⟨hadd, hadd'⟩ := cat_to (a := b) (b := ty) (c := c) (by rw [hcc, hbk]; exact hw) (by
          have := congrArg List.length hw
          rw [List.length_append] at this
          rw [Nat.zero_add] at hm1
          omega)
        have HC := Lib.hid hcc
        clear hw hty hbk hcc
        generalize hqk : q 0 = y at *
        clear hqk
        obtain ⟨yk, yn, ys, yr⟩ := y
        simp only [Raw.val, Raw.cs, Nat.zero_mul, Nat.add_zero] at T c0 c1 c2 c3
        go_wp2_with fail
        have hB1 : Below W.heap.size W (wr.alloc (.cells #[.int .i64 yk, .int .i64 yn, .string ys, .int .i32 yr] 23)) := B.alloc B.size _
        refine (T.out _).mono ?_; rintro e w1 ⟨rfl, b1⟩
        have HB1 := Lib.hid (keepB hB1 b1)
        clear b1 hB1 B c0 c1 c2 c3
        go_wp2_with fail
        go_roundw
        case rel => exact ⟨0 + 1, c, by omega, by go_num, rfl, HC.out, HB1.out⟩
        case measure => simp [intOf]; omega
      · have hw := wantL_succ q k (by omega)
        obtain ⟨ty, hty⟩ : ∃ ty, textA (q k).atom = ty := ⟨_, rfl⟩
        rw [hty] at hw T
        have hlw := congrArg List.length hw
        simp only [List.length_append, List.length_cons, List.length_nil] at hlw
        obtain ⟨c, hcc⟩ : ∃ c : ByteArray, c.data.toList = wantL q k ++ [32] := ⟨⟨(wantL q k ++ [32]).toArray⟩, by simp⟩
        obtain ⟨d, hdd⟩ : ∃ d : ByteArray, d.data.toList = wantL q (k + 1) := ⟨⟨(wantL q (k + 1)).toArray⟩, by simp⟩
        have hcl := congrArg List.length hcc
        simp only [List.length_append, List.length_cons, List.length_nil] at hcl
        obtain ⟨hadd, hadd'⟩ := cat_to (a := b) (b := { data := #[32] }) (c := c) (by rw [hcc, hbk]) (by show _ + 1 ≤ _; omega)
        obtain ⟨hadd2, hadd2'⟩ := cat_to (a := c) (b := ty) (c := d) (by rw [hdd, hcc]; exact hw) (by omega)
        have HD := Lib.hid hdd
        have k0 : (0 : Int) < (k : Int) := by omega
        clear hw hty hbk hcc hdd hlw hcl
        generalize hqk : q k = y at *
        clear hqk
        obtain ⟨yk, yn, ys, yr⟩ := y
        simp only [Raw.val, Raw.cs] at T c0 c1 c2 c3
        go_wp2_with fail
        have hB1 : Below W.heap.size W (wr.alloc (.cells #[.int .i64 yk, .int .i64 yn, .string ys, .int .i32 yr] 23)) := B.alloc B.size _
        refine (T.out _).mono ?_; rintro e w1 ⟨rfl, b1⟩
        have HB1 := Lib.hid (keepB hB1 b1)
        clear b1 hB1 B c0 c1 c2 c3
        go_wp2_with fail
        go_roundw
        case rel => exact ⟨k + 1, d, by omega, by go_num, rfl, HD.out, HB1.out⟩
        case measure => simp [intOf]; omega
    · obtain rfl : k = len := by omega
      have HW := Lib.hid (keepB B0.out B)
      have c0 := (B.cell (p := ⟨w.heap.size, 0, none⟩) K0.out.lt).trans (K0.out.cell 0)
      have c1 := (B.cell (p := ⟨w.heap.size, 1, none⟩) K0.out.lt).trans (K0.out.cell 1)
      have c2 := (B.cell (p := ⟨w.heap.size, 2, none⟩) K0.out.lt).trans (K0.out.cell 2)
      have c3 := (B.cell (p := ⟨w.heap.size, 3, none⟩) K0.out.lt).trans (K0.out.cell 3)
      simp at c0 c1 c2 c3
      obtain ⟨z1, hz1⟩ : ∃ z : ByteArray, z.data.toList = wantL q k ++ [41] := ⟨⟨(wantL q k ++ [41]).toArray⟩, by simp⟩
      obtain ⟨z2, hz2⟩ : ∃ z : ByteArray, z.data.toList = 40 :: (wantL q k ++ [41]) := ⟨⟨(40 :: (wantL q k ++ [41])).toArray⟩, by simp⟩
      obtain ⟨z3, hz3⟩ : ∃ z : ByteArray, z.data.toList = 40 :: (wantL q k ++ [41]) ++ [32] := ⟨⟨(40 :: (wantL q k ++ [41]) ++ [32]).toArray⟩, by simp⟩
      obtain ⟨z4, hz4⟩ : ∃ z : ByteArray, z.data.toList = 40 :: (wantL q k ++ [41]) ++ [32] ++ tx.data.toList := ⟨⟨(40 :: (wantL q k ++ [41]) ++ [32] ++ tx.data.toList).toArray⟩, by simp⟩
      obtain ⟨z5, hz5⟩ : ∃ z : ByteArray, z.data.toList = 40 :: (wantL q k ++ [41]) ++ [32] ++ tx.data.toList ++ [41] := ⟨⟨(40 :: (wantL q k ++ [41]) ++ [32] ++ tx.data.toList ++ [41]).toArray⟩, by simp⟩
      have hn1 := congrArg List.length hz1
      have hn2 := congrArg List.length hz2
      have hn3 := congrArg List.length hz3
      have hn4 := congrArg List.length hz4
      have hn0 := congrArg List.length hbk
      simp only [List.length_append, List.length_cons, List.length_nil] at hn1 hn2 hn3 hn4 hn0
      obtain ⟨ad1, ad1'⟩ := cat_to (a := b) (b := { data := #[41] }) (c := z1) (by rw [hz1, hbk]) (by show _ + 1 ≤ _; omega)
      obtain ⟨ad2, ad2'⟩ := cat_to (a := { data := #[40] }) (b := z1) (c := z2) (by rw [hz2, hz1]; rfl) (by show 1 + _ ≤ _; omega)
      obtain ⟨ad3, ad3'⟩ := cat_to (a := z2) (b := { data := #[32] }) (c := z3) (by rw [hz3, hz2]) (by show _ + 1 ≤ _; omega)
      obtain ⟨ad4, ad4'⟩ := cat_to (a := z3) (b := tx) (c := z4) (by rw [hz4, hz3]) (by omega)
      obtain ⟨ad5, ad5'⟩ := cat_to (a := z4) (b := { data := #[41] }) (c := z5) (by rw [hz5, hz4]) (by show _ + 1 ≤ _; omega)
      rw [← hz1] at SL
      rw [← hz5] at SP
      simp only [mk_list] at SL SP
      clear hn0 hn1 hn2 hn3 hn4 hz1 hz2 hz3 hz4 hz5 hbk hm hll HT K0 B
      rcases hkind with rfl | ⟨u, y, rfl⟩
      · go_wp2_with fail
        go_region_held3 (fun w' => w'.cell? ⟨w.heap.size, 0, none⟩ = some (.int .i64 xk) ∧ w'.cell? ⟨w.heap.size, 1, none⟩ = some (.int .i64 xn) ∧ w'.cell? ⟨w.heap.size, 2, none⟩ = some (.string xs) ∧ w'.cell? ⟨w.heap.size, 3, none⟩ = some (.int .i32 xr) ∧ Below w.heap.size w w')
          (first | assumption | exact ⟨c0, c1, c2, c3, HW.out.drew⟩ | exact (And.imp (cell_later hb5) (And.imp (cell_later hb5) (And.imp (cell_later hb5) (And.imp (cell_later hb5) (fun hl => keepB hl hb5))))) (by assumption) | exact (And.imp (cell_later hb6) (And.imp (cell_later hb6) (And.imp (cell_later hb6) (And.imp (cell_later hb6) (fun hl => keepB hl hb6))))) (by assumption) | exact (And.imp (cell_later hb7) (And.imp (cell_later hb7) (And.imp (cell_later hb7) (And.imp (cell_later hb7) (fun hl => keepB hl hb7))))) (by assumption) | exact (And.imp (cell_later hb8) (And.imp (cell_later hb8) (And.imp (cell_later hb8) (And.imp (cell_later hb8) (fun hl => keepB hl hb8))))) (by assumption) | exact (And.imp (cell_later hb9) (And.imp (cell_later hb9) (And.imp (cell_later hb9) (And.imp (cell_later hb9) (fun hl => keepB hl hb9))))) (by assumption) | exact (And.imp (cell_later hb10) (And.imp (cell_later hb10) (And.imp (cell_later hb10) (And.imp (cell_later hb10) (fun hl => keepB hl hb10))))) (by assumption) | exact (And.imp (cell_later hb16) (And.imp (cell_later hb16) (And.imp (cell_later hb16) (And.imp (cell_later hb16) (fun hl => keepB hl hb16))))) (by assumption) | exact (And.imp cell_alloc (And.imp cell_alloc (And.imp cell_alloc (And.imp cell_alloc (fun hl => below_alloc hl))))) (by assumption))
          (first | (go_at_call 14; (with_reducible refine (MX.out _).mono ?_); rintro e w5 ⟨rfl, hb5⟩; (try have LB := LL.later hb5 LB)) | (go_at_call 12; (with_reducible refine (TX.out _).mono ?_); rintro e w8 ⟨rfl, hb8⟩) | (go_at_call 15; (with_reducible refine (HL.out _ (HQ.out.later (by go_split_ands; with_reducible assumption))).mono ?_); rintro e w6 ⟨a1, k1, rfl, o1, hb6⟩; have LB := LL.mk (lies_own o1)) | (go_at_call 13; (with_reducible refine (SX.out _ (HP.out.below (by go_split_ands; with_reducible assumption))).mono ?_); rintro e w7 ⟨rfl, hb7⟩) | (go_at_call 13; (with_reducible refine (SL.out _ _ _ (HP.out.below (by go_split_ands; with_reducible assumption)) LB.out).mono ?_); rintro e w9 ⟨rfl, hb9⟩) | (go_at_call 13; (with_reducible refine (SP.out _ _ _ _ (HP.out.below (by go_split_ands; with_reducible assumption)) (Blk.new _ _ _) (LL.alloc LB).out).mono ?_); rintro e w10 ⟨rfl, hb10⟩) | (go_at_call 11; (with_reducible refine (awake_any _).mono ?_); rintro e w16 ⟨rfl, hb16⟩))
        all_goals
          (obtain ⟨_, _, _, _, HBf⟩ := (by assumption : w16.cell? ⟨w.heap.size, 0, none⟩ = some (.int .i64 xk) ∧ w16.cell? ⟨w.heap.size, 1, none⟩ = some (.int .i64 xn) ∧ w16.cell? ⟨w.heap.size, 2, none⟩ = some (.string xs) ∧ w16.cell? ⟨w.heap.size, 3, none⟩ = some (.int .i32 xr) ∧ Below w.heap.size w w16)
           go_wp2_with fail
           go_ret
           exact ⟨rfl, HBf⟩)
      · go_wp2_with fail
        go_region_held3 (fun w' => w'.cell? ⟨w.heap.size, 0, none⟩ = some (.int .i64 xk) ∧ w'.cell? ⟨w.heap.size, 1, none⟩ = some (.int .i64 xn) ∧ w'.cell? ⟨w.heap.size, 2, none⟩ = some (.string xs) ∧ w'.cell? ⟨w.heap.size, 3, none⟩ = some (.int .i32 xr) ∧ Below w.heap.size w w')
          (first | assumption | exact ⟨c0, c1, c2, c3, HW.out.drew⟩ | exact (And.imp (cell_later hb5) (And.imp (cell_later hb5) (And.imp (cell_later hb5) (And.imp (cell_later hb5) (fun hl => keepB hl hb5))))) (by assumption) | exact (And.imp (cell_later hb6) (And.imp (cell_later hb6) (And.imp (cell_later hb6) (And.imp (cell_later hb6) (fun hl => keepB hl hb6))))) (by assumption) | exact (And.imp (cell_later hb7) (And.imp (cell_later hb7) (And.imp (cell_later hb7) (And.imp (cell_later hb7) (fun hl => keepB hl hb7))))) (by assumption) | exact (And.imp (cell_later hb8) (And.imp (cell_later hb8) (And.imp (cell_later hb8) (And.imp (cell_later hb8) (fun hl => keepB hl hb8))))) (by assumption) | exact (And.imp (cell_later hb9) (And.imp (cell_later hb9) (And.imp (cell_later hb9) (And.imp (cell_later hb9) (fun hl => keepB hl hb9))))) (by assumption) | exact (And.imp (cell_later hb10) (And.imp (cell_later hb10) (And.imp (cell_later hb10) (And.imp (cell_later hb10) (fun hl => keepB hl hb10))))) (by assumption) | exact (And.imp (cell_later hb16) (And.imp (cell_later hb16) (And.imp (cell_later hb16) (And.imp (cell_later hb16) (fun hl => keepB hl hb16))))) (by assumption) | exact (And.imp cell_alloc (And.imp cell_alloc (And.imp cell_alloc (And.imp cell_alloc (fun hl => below_alloc hl))))) (by assumption))
          (first | (go_at_call 14; (with_reducible refine (MX.out _).mono ?_); rintro e w5 ⟨rfl, hb5⟩; (try have LB := LL.later hb5 LB)) | (go_at_call 12; (with_reducible refine (TX.out _).mono ?_); rintro e w8 ⟨rfl, hb8⟩) | (go_at_call 15; (with_reducible refine (HL.out _ (HQ.out.later (by go_split_ands; with_reducible assumption))).mono ?_); rintro e w6 ⟨a1, k1, rfl, o1, hb6⟩; have LB := LL.mk (lies_own o1)) | (go_at_call 13; (with_reducible refine (SX.out _ (HP.out.below (by go_split_ands; with_reducible assumption))).mono ?_); rintro e w7 ⟨rfl, hb7⟩) | (go_at_call 13; (with_reducible refine (SL.out _ _ _ (HP.out.below (by go_split_ands; with_reducible assumption)) LB.out).mono ?_); rintro e w9 ⟨rfl, hb9⟩) | (go_at_call 13; (with_reducible refine (SP.out _ _ _ _ (HP.out.below (by go_split_ands; with_reducible assumption)) (Blk.new _ _ _) (LL.alloc LB).out).mono ?_); rintro e w10 ⟨rfl, hb10⟩) | (go_at_call 11; (with_reducible refine (awake_any _).mono ?_); rintro e w16 ⟨rfl, hb16⟩))
        all_goals
          (obtain ⟨_, _, _, _, HBf⟩ := (by assumption : w16.cell? ⟨w.heap.size, 0, none⟩ = some (.int .i64 xk) ∧ w16.cell? ⟨w.heap.size, 1, none⟩ = some (.int .i64 xn) ∧ w16.cell? ⟨w.heap.size, 2, none⟩ = some (.string xs) ∧ w16.cell? ⟨w.heap.size, 3, none⟩ = some (.int .i32 xr) ∧ Below w.heap.size w w16)
           go_wp2_with fail
           go_ret
           exact ⟨rfl, HBf⟩)
end Go.Proofs.YtboagdmjibdlhaaDoor
