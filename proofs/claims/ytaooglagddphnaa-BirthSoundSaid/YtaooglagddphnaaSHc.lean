/- Hc: what BiPSound leans on. Printed by wip/tools/slim13.py. -/
import Derived.Test.YtaooglagddphnaaSHb
import Derived.Test.YtaooglagddphnaaSGd
import Derived.Deep.AppendLies

namespace Go.Proofs.Ytaooglagddphnaa
open Go.RowKit

set_option maxRecDepth 100000

section
variable {w w' W : World} {base n : Nat} {v : Value}
/-- A row of one's own, opened. -/
theorem own_open15 {E9 : TypeId} {xs : List Value} (h : w.ownsRow base E9 1 v xs.length xs) (hn : 0 < xs.length) : ∃ g cap zs, v = .slice (some ⟨g, 0, none⟩) xs.length cap ∧ base ≤ g ∧ Blk w g E9 zs ∧ ∀ (k : Nat) (x : Value), xs[k]? = some x → zs[k]? = some x := by
  rcases h.2 with ⟨rfl, h0⟩ | ⟨g, cap, cur, rfl, hg, hgg, h1, h2, h3, h4⟩
  · omega
  · refine ⟨g, cap, cur, rfl, hg, hgg, fun k x hx => ?_⟩
    have hk := (List.getElem?_eq_some_iff.1 hx).1
    have hc : cur[k]? = xs[k]? := by
      rw [← h4, List.getElem?_take_of_lt (by omega), Array.getElem?_toList]
    rw [hc]; exact hx
theorem own_slice15 {E9 : TypeId} {xs : List Value} {n : Nat} (h : w.ownsRow base E9 1 v n xs) : ∃ a c, v = .slice a n c := by
  rcases h.2 with ⟨rfl, rfl⟩ | ⟨g, cap, cur, rfl, _⟩
  · exact ⟨_, _, rfl⟩
  · exact ⟨_, _, rfl⟩
theorem own_keep15 {E9 : TypeId} {xs : List Value} {n : Nat} (h : w.ownsRow base E9 1 v n xs) (hb : ∀ i, v.ownBlock = some i → w'.heap[i]? = w.heap[i]?) : w'.ownsRow base E9 1 v n xs := by
  rcases h.2 with ⟨e, h0⟩ | ⟨g, cap, cur, e, hg, hgg, h1, h2, h3, h4⟩
  · exact ⟨h.1, .inl ⟨e, h0⟩⟩
  · subst e
    refine ⟨h.1, .inr ⟨g, cap, cur, rfl, hg, ?_, h1, h2, h3, h4⟩⟩
    by_cases hc : cap = 0
    · subst hc
      first
        | exact (hb g rfl).trans hgg
        | (simp at h1; exact absurd h1 (by omega))
    · obtain ⟨c, rfl⟩ : ∃ c, cap = c + 1 := ⟨cap - 1, by omega⟩
      exact (hb g rfl).trans hgg
end
/-- A memory's first cells, as values; all of its cells. -/
def cvL (f : Nat → Int) (k : Nat) : List Value := (List.range k).map fun i => .int .u64 (f i)
def cvF (n : Nat) (f : Nat → Int) (k : Nat) : Int := if k < n then f k else 0
section
variable {f : Nat → Int} {k : Nat}
theorem cvL_len : (cvL f k).length = k := by simp [cvL]
theorem cvL_succ : cvL f (k + 1) = cvL f k ++ [.int .u64 (f k)] := by unfold cvL; rw [List.range_succ, List.map_append]; rfl
theorem cvL_at {n : Nat} (h : k < n) : (cvL f n)[k]? = some (.int .u64 (f k)) := by unfold cvL; rw [List.getElem?_map, List.getElem?_range h]; rfl
end

end Go.Proofs.Ytaooglagddphnaa

namespace Go.Proofs.Ytaooglagddphnaa
open Go.RowKit

set_option maxRecDepth 100000

section
variable {V S T : Int} {dl dc p gb cap m k : Nat} {d : Nat → Nat} {w w' : World} {da : Option Addr} {f : Nat → Int}
theorem em_aload (h : EM w V S T p gb cap m f) (hk : k < cellsE V S T) (hb : m ≤ 100000000) {kI : Int} (hI : kI = (k : Int)) :
    Calls Try.prog 27 #[.pointer (some ⟨p, 0, none⟩), .int .i64 kI] w fun e w' => e = .returned (.tuple #[.int .u64 (f k), .int .i64 0]) ∧ EM w' V S T p gb cap (m + 1) f ∧ Only p gb w w' := by
  subst hI
  obtain ⟨h1, c, A, C⟩ := h
  refine (load_yes A hk C hb).mono ?_
  rintro e w' ⟨rfl, A2, O2⟩
  exact ⟨rfl, ⟨h1, _, A2, C.upd 0⟩, O2⟩
theorem em_alen (h : EM w V S T p gb cap m f) : Calls Try.prog 26 #[.pointer (some ⟨p, 0, none⟩)] w fun e w' => e = .returned (.int .i64 (cellsE V S T : Int)) ∧ w = w' := by
  obtain ⟨_, c, A, _⟩ := h
  have c0 := A.c0
  have lt := A.p_lt
  clear A
  go_enter Try.func26, Try.ntmps26
  go_wp2_with fail
  go_ret
  exact ⟨rfl, rfl⟩
theorem ref15 (V S T : Int) (w : World) : Calls Try.prog 23 #[vL V S T] w fun e w' => e = .returned (vL V S T) ∧ Below w.heap.size w w' := by
  go_enter Try.func23, Try.ntmps23
  go_wp2_with fail
  exact bodyPost_ret (v := vL V S T) (by simp [results, Try.results23, go_sem]) rfl ⟨rfl, ((Below.refl _ _).alloc (Nat.le_refl _) _).alloc (by simp) _⟩
/-- What List tells of memory at first. -/
theorem free15 (hE : EM w V S T p gb cap m (bcX V S T dl d (nN V S + 1))) (hm : m ≤ 100000) :
    Calls Try.prog 31 #[.iface 84 (pmV p), vL V S T] w fun e w' => ∃ v, e = .returned v ∧ LI w' v (List.range S.toNat) ∧ (∀ i, bk v = some i → w.heap.size ≤ i) ∧ EM w' V S T p gb cap (m + 1 + S.toNat) (bcX V S T dl d (nN V S + 1)) ∧ Only p gb w w' := by
  obtain ⟨hR, c, A, C⟩ := hE
  obtain ⟨Sn, rfl⟩ : ∃ n : Nat, S = (n : Int) := ⟨S.toNat, by have := hR.s1; omega⟩
  obtain ⟨t, rfl⟩ : ∃ n : Nat, T = (n : Int) := ⟨T.toNat, by have := hR.t1; omega⟩
  have e3 : o3 (Sn : Int) (t : Int) = t + 1 + Sn * 7 := rfl
  have h1 := cellsE_int hR
  have h2 := o3_cells hR
  obtain ⟨q0, q1, q2⟩ := o_order hR
  have f0 : bcX V (Sn : Int) (t : Int) dl d (nN V (Sn : Int) + 1) t = lnF Sn 0 := by
    rw [bcX_low (by omega) (by omega)]
    unfold bcF
    rw [if_neg (by omega), if_pos rfl, Int.toNat_natCast]
  have f1 : ∀ s, s < Sn → bcX V (Sn : Int) (t : Int) dl d (nN V (Sn : Int) + 1) (t + 1 + s * 7) = (((fun s => if s + 1 < Sn then s + 2 else 0) s : Nat) : Int) := fun s hs => by
    rw [bcX_low (by omega) (by omega)]
    unfold bcF
    rw [if_neg (by omega), if_neg (by omega), if_pos (by omega), if_pos (by omega), Int.toNat_natCast]
    have e : (((t + 1 + s * 7 : Nat) : Int) - t - 1) / 7 = s := by omega
    rw [e]
    unfold lnF
    dsimp only
    by_cases h : s + 1 < Sn
    · rw [if_pos (by omega), if_pos h]; omega
    · rw [if_neg (by omega), if_neg h]; rfl
  have hk0 : lnF Sn 0 % 65536 = ((if Sn = 0 then 0 else 0 + 1 : Nat) : Int) := by
    unfold lnF
    by_cases h : Sn = 0
    · rw [if_neg (by omega), if_pos h]; rfl
    · rw [if_pos (by omega), if_neg h]; rfl
  refine (slist_any (k0 := if Sn = 0 then 0 else 0 + 1) (nx := fun s => if s + 1 < Sn then s + 2 else 0) (L := List.range' 0 Sn) hR rfl A (by omega) (fun s hs => by omega) C hm (by rw [f0]; exact hk0) f1 (chain_range Sn Sn 0 (by omega)) (fun s hs => by have := (List.mem_range'_1.1 hs).2; omega) (by simp)).mono ?_
  rintro e w' ⟨v, c', rfl, hl, hb, A', C', _, _, O⟩
  rw [Int.toNat_natCast]
  refine ⟨v, rfl, by rw [List.range_eq_range']; exact hl, hb, ⟨hR, c', A', ?_⟩, O⟩
  rw [List.length_range'] at C'
  exact C'
end

end Go.Proofs.Ytaooglagddphnaa

namespace Go.Proofs.Ytaooglagddphnaa
open Go.RowKit

set_option maxRecDepth 100000

/-- The draws 7 and 9. -/
def d79 (j : Nat) : Nat := if j = 0 then 7 else 9
section
variable {w w' W : World} {p gb cap m b dl : Nat} {d : Nat → Nat}
theorem rt211 : Rt 2 1 1 := rtB_yes (by rfl)
theorem num79 (w : World) : IsNum (w.alloc (.cells #[.int .u64 7, .int .u64 9] 51)) (some ⟨w.heap.size, 0, none⟩) 2 d79 := fun _ => ⟨w.heap.size, 0, rfl, fun k hk => by
  rcases (by omega : k = 0 ∨ k = 1) with rfl | rfl
  · exact ⟨(Blk.new _ _ _).cell 0, by decide⟩
  · exact ⟨(Blk.new _ _ _).cell 1, by decide⟩⟩
theorem fld (x k : Nat) (hx1 : 1 ≤ x) (hx : x ≤ nN 2 1) (hk : k < 7) {xI kI : Int} (e1 : xI = (x : Int)) (e2 : kI = (k : Int)) (w : World) :
    Calls Try.prog 37 #[vL 2 1 1, .int .i64 xI, .int .i64 kI] w fun e w' => e = .returned (.int .i64 (cN 2 1 1 x k : Int)) ∧ Below w.heap.size w w' := by
  subst e1
  exact lfield rt211 e2 hx1 hx hk w
theorem li_one {v : Value} (h : LI w v (List.range (1 : Int).toNat)) : ∃ a c, v = .slice a 1 c := by
  obtain ⟨a, c, rfl, _, _⟩ := h.shape
  exact ⟨a, c, rfl⟩
/-- The lay's variable beside the arena. -/
structure AW15 (W : World) (b p gb cap m : Nat) : Prop where
  l : Blk W b 23 #[.int .i64 2, .int .i64 1, .int .i64 1]
  e : EM W 2 1 1 p gb cap m (bcX 2 1 1 2 d79 (nN 2 1 + 1))
theorem AW15.below (h : AW15 w b p gb cap m) (hb : Below w.heap.size w w') : AW15 w' b p gb cap m := ⟨h.l.below hb h.l.lt, h.e.below hb⟩
theorem AW15.drew (h : AW15 w b p gb cap m) : AW15 w.drew b p gb cap m := h.below (Below.refl _ _).drew
theorem aw15_rule (b p gb cap m : Nat) : ∀ W : World, AW15 W b p gb cap m → W.cell? ⟨b, 0, none⟩ = some (.int .i64 2) ∧ W.cell? ⟨b, 1, none⟩ = some (.int .i64 1) ∧ W.cell? ⟨b, 2, none⟩ = some (.int .i64 1) := fun _ h => ⟨h.l.cell 0, h.l.cell 1, h.l.cell 2⟩
set_option maxHeartbeats 4000000 in
theorem awake15 (w : World) : Calls Try.prog 24 #[] w fun e w' => e = .returned (.bool true) ∧ Below w.heap.size w w' := by
  have HB0 : Hid (Below w.heap.size w ((w.alloc (.cells #[.int .i64 2, .int .i64 1, .int .i64 1] 23)).alloc (.cells #[.int .u64 7, .int .u64 9] 51))) := Lib.hid (((Below.refl _ _).alloc (Nat.le_refl _) _).alloc (by simp) _)
  have HL0 : Hid (Blk ((w.alloc (.cells #[.int .i64 2, .int .i64 1, .int .i64 1] 23)).alloc (.cells #[.int .u64 7, .int .u64 9] 51)) w.heap.size 23 #[.int .i64 2, .int .i64 1, .int .i64 1]) := Lib.hid ((Blk.new _ _ _).alloc _)
  have HN0 := Lib.hid (num79 (w.alloc (.cells #[.int .i64 2, .int .i64 1, .int .i64 1] 23)))
  have hs1 : (w.alloc (.cells #[.int .i64 2, .int .i64 1, .int .i64 1] 23)).heap.size = w.heap.size + 1 := by simp
  rw [hs1] at HN0
  clear hs1
  go_enter Try.func24, Try.ntmps24
  go_wp2_with fail
  generalize hlb : w.heap.size = lb at HL0 HN0 ⊢
  have HLB := Lib.hid hlb
  clear hlb
  generalize (w.alloc (.cells #[.int .i64 2, .int .i64 1, .int .i64 1] 23)).alloc (.cells #[.int .u64 7, .int .u64 9] 51) = w1 at HB0 HL0 HN0 ⊢
  refine (new_born rt211 HN0.out (by decide)).mono ?_; rintro e w2 ⟨p, gb, cap, rfl, hE, hp, hg, hb2⟩
  have HA2 : Hid (AW15 w2 lb p gb cap 12000) := Lib.hid ⟨HL0.out.below hb2 HL0.out.lt, hE⟩
  have HB2 := Lib.hid (HB0.out.trans (hb2.mono HB0.out.size))
  have HPG : Hid (w.heap.size ≤ p ∧ w.heap.size ≤ gb) := Lib.hid ⟨Nat.le_trans HB0.out.size hp, Nat.le_trans HB0.out.size hg⟩
  clear HB0 HL0 HN0 hE hp hg hb2
  go_wp2_with fail
  refine (new_range (V := 0) (S := 0) (T := 0) (by rfl)).mono ?_; rintro e w3 ⟨rfl, hb3⟩
  have HA3 := Lib.hid (HA2.out.below hb3)
  have HB3 := Lib.hid (HB2.out.trans (hb3.mono HB2.out.size))
  clear HA2 HB2 hb3
  obtain ⟨l0, l1, l2⟩ := aw15_rule lb p gb cap 12000 w3 HA3.out
  have llt := HA3.out.l.lt
  go_wp2_with fail
  have hrule := aw15_rule lb p gb cap 12000
  have hmk : ∀ W : World, (Instr.makeSlice 62 (.int .i64 257) (.int .i64 257)).run Try.prog W = .ok (.slice (some ⟨W.heap.size, 0, none⟩) 257 257) (W.alloc (.cells (madeCells #[.int .u64 0] (257 * 1)) 51)) := fun W => made_u 256 (by decide) W
  have HAd := Lib.hid HA3.out.drew
  have HBd : Hid (Below w.heap.size w w3.drew) := Lib.hid (HB3.out.trans ((Below.refl _ _).drew.mono HB3.out.size))
  clear HA3 HB3 l0 l1 l2 llt
  have llt := HAd.out.l.lt
  obtain ⟨l0, l1, l2⟩ := hrule _ HAd.out
  go_region_held3 (fun W => AW15 W lb p gb cap 12000) (first | (with_reducible assumption) | (with_reducible exact HAd.out) | (with_reducible exact HA4.out) | (with_reducible exact HAd.out.below ((Below.refl _ _).alloc (Nat.le_refl _) _)))
    (first
      | (go_at_call 21; ((with_reducible refine (new_many rt211 (by decide)).mono ?_); rintro e w4 ⟨rfl, hb4⟩; have HA4 := Lib.hid (HAd.out.below (((Below.refl _ _).alloc (Nat.le_refl _) _).trans (hb4.mono (by simp)))); have HB4 := Lib.hid (HBd.out.trans ((((Below.refl _ _).alloc (Nat.le_refl _) _).trans (hb4.mono (by simp))).mono HBd.out.size)))))
  clear HAd HBd l0 l1 l2 llt hmk
  go_wp2_with fail
  have HAd := Lib.hid HA4.out.drew
  have HBd : Hid (Below w.heap.size w w4.drew) := Lib.hid (HB4.out.trans ((Below.refl _ _).drew.mono HB4.out.size))
  clear HA4 HB4
  obtain ⟨nC, hnC⟩ : ∃ n, cellsE 2 1 1 = n := ⟨_, rfl⟩
  have hcn : cn 2 1 1 = (nC : Int) := by rw [← hnC]; exact (cellsE_int rt211).symm
  have HNC := Lib.hid hnC
  have HCN := Lib.hid hcn
  clear hnC hcn
  have hne : ((nC : Int) != (nC : Int)) = false := by simp
  have llt := HAd.out.l.lt
  obtain ⟨l0, l1, l2⟩ := hrule _ HAd.out
  go_region_held3 (fun W => AW15 W lb p gb cap 12000) (first | (with_reducible assumption) | (with_reducible exact HAd.out) | (with_reducible exact HA6.out))
    (first
      | (go_at_call 26; ((with_reducible refine (em_alen HAd.out.e).mono ?_); rintro e w5 ⟨rfl, rfl⟩; rw [HNC.out]))
      | (go_at_call 28; ((with_reducible refine (cells_yes 2 1 1 rt211 _).mono ?_); rintro e w6 ⟨rfl, hb6⟩; rw [HCN.out]; have HA6 := Lib.hid (HAd.out.below hb6); have HB6 := Lib.hid (HBd.out.trans (hb6.mono HBd.out.size)))))
  clear HAd HBd l0 l1 l2 llt hne hrule
  obtain ⟨l0, l1, l2⟩ := aw15_rule lb p gb cap 12000 w6 HA6.out
  have llt := HA6.out.l.lt
  go_wp2_with fail
  refine (fld 1 5 (by decide) (by decide) (by decide) rfl rfl _).mono ?_; rintro e w7 ⟨rfl, hb7⟩
  have HA7 := Lib.hid (HA6.out.below hb7)
  have HB7 := Lib.hid (HB6.out.trans (hb7.mono HB6.out.size))
  clear HA6 HB6 hb7 l0 l1 l2 llt
  go_wp2_with fail
  refine (em_aload HA7.out.e (cN_lt rt211 (by decide) (by decide) (by decide)) (by omega) rfl).mono ?_; rintro e w8 ⟨rfl, hE8, hO8⟩
  rw [show bcX 2 1 1 2 d79 (nN 2 1 + 1) (cN 2 1 1 1 5) = 9 from by rw [bcX_node rt211 (by decide) (by decide), if_pos (by decide)]; rfl]
  have HA8 : Hid (AW15 w8 lb p gb cap 12001) := Lib.hid ⟨HA7.out.l.em HA7.out.e hO8 (by decide) (by decide), hE8⟩
  have HB8 := Lib.hid (Only.below HB7.out hO8 HB7.out.size HPG.out.1 HPG.out.2)
  clear HA7 HB7 hE8 hO8
  obtain ⟨l0, l1, l2⟩ := aw15_rule lb p gb cap 12001 w8 HA8.out
  have llt := HA8.out.l.lt
  go_wp2_with fail
  refine (fld 1 0 (by decide) (by decide) (by decide) rfl rfl _).mono ?_; rintro e w9 ⟨rfl, hb9⟩
  have HA9 := Lib.hid (HA8.out.below hb9)
  have HB9 := Lib.hid (HB8.out.trans (hb9.mono HB8.out.size))
  clear HA8 HB8 hb9 l0 l1 l2 llt
  go_wp2_with fail
  refine (em_aload HA9.out.e (cN_lt rt211 (by decide) (by decide) (by decide)) (by omega) rfl).mono ?_; rintro e w10 ⟨rfl, hE10, hO10⟩
  rw [show bcX 2 1 1 2 d79 (nN 2 1 + 1) (cN 2 1 1 1 0) = 0 from by rw [bcX_node rt211 (by decide) (by decide), if_pos (by decide)]; rfl]
  have HA10 : Hid (AW15 w10 lb p gb cap 12002) := Lib.hid ⟨HA9.out.l.em HA9.out.e hO10 (by decide) (by decide), hE10⟩
  have HB10 := Lib.hid (Only.below HB9.out hO10 HB9.out.size HPG.out.1 HPG.out.2)
  clear HA9 HB9 hE10 hO10
  obtain ⟨l0, l1, l2⟩ := aw15_rule lb p gb cap 12002 w10 HA10.out
  have llt := HA10.out.l.lt
  go_wp2_with fail
  refine (fld 3 0 (by decide) (by decide) (by decide) rfl rfl _).mono ?_; rintro e w11 ⟨rfl, hb11⟩
  have HA11 := Lib.hid (HA10.out.below hb11)
  have HB11 := Lib.hid (HB10.out.trans (hb11.mono HB10.out.size))
  clear HA10 HB10 hb11 l0 l1 l2 llt
  go_wp2_with fail
  refine (em_aload HA11.out.e (cN_lt rt211 (by decide) (by decide) (by decide)) (by omega) rfl).mono ?_; rintro e w12 ⟨rfl, hE12, hO12⟩
  rw [show bcX 2 1 1 2 d79 (nN 2 1 + 1) (cN 2 1 1 3 0) = 65535 from by rw [bcX_node rt211 (by decide) (by decide), if_pos (by decide)]; rfl]
  have HA12 : Hid (AW15 w12 lb p gb cap 12003) := Lib.hid ⟨HA11.out.l.em HA11.out.e hO12 (by decide) (by decide), hE12⟩
  have HB12 := Lib.hid (Only.below HB11.out hO12 HB11.out.size HPG.out.1 HPG.out.2)
  clear HA11 HB11 hE12 hO12
  obtain ⟨l0, l1, l2⟩ := aw15_rule lb p gb cap 12003 w12 HA12.out
  have llt := HA12.out.l.lt
  go_wp2_with fail
  have HAd := Lib.hid HA12.out.drew
  have HBd : Hid (Below w.heap.size w w12.drew) := Lib.hid (HB12.out.trans ((Below.refl _ _).drew.mono HB12.out.size))
  clear HA12 HB12 l0 l1 l2 llt
  have hrule : ∀ W : World, Blk W lb 23 #[.int .i64 2, .int .i64 1, .int .i64 1] → W.cell? ⟨lb, 0, none⟩ = some (.int .i64 2) ∧ W.cell? ⟨lb, 1, none⟩ = some (.int .i64 1) ∧ W.cell? ⟨lb, 2, none⟩ = some (.int .i64 1) := fun _ h => ⟨h.cell 0, h.cell 1, h.cell 2⟩
  have llt := HAd.out.l.lt
  obtain ⟨l0, l1, l2⟩ := hrule _ HAd.out.l
  go_region_held3 (fun W => Blk W lb 23 #[.int .i64 2, .int .i64 1, .int .i64 1]) (first | (with_reducible assumption) | (with_reducible exact HAd.out.l) | (with_reducible exact HA13.out.l) | (with_reducible exact HL14.out))
    (first
      | (go_at_call 32; ((with_reducible refine (pm_of p _).mono ?_); rintro e w13 ⟨rfl, hb13⟩; have HA13 := Lib.hid (HAd.out.below hb13); have HB13 := Lib.hid (HBd.out.trans (hb13.mono HBd.out.size))))
      | (go_at_call 31; ((with_reducible refine (free15 HA13.out.e (by omega)).mono ?_); rintro e w14 ⟨v, rfl, hl, _, _, hO14⟩; have HL14 := Lib.hid (HA13.out.l.em HA13.out.e hO14 (by decide) (by decide)); have HB14 := Lib.hid (Only.below HB13.out hO14 HB13.out.size HPG.out.1 HPG.out.2); obtain ⟨va, vc, rfl⟩ := li_one hl; clear hl hO14)))
  go_wp2_with fail
  go_ret
  exact ⟨rfl, HB14.out⟩
end

end Go.Proofs.Ytaooglagddphnaa
