/- Contract of the law's list; an argument that is a slice of values in parts. -/
import Derived.Test.YtboagdmjibdlhaaDoorValM
namespace Go.Proofs.YtboagdmjibdlhaaDoor
set_option maxRecDepth 100000
open Go.RowKit

/-- One value in parts, in memory. -/
def RawAt (w : World) (b o : Nat) (x : Raw) : Prop :=
  w.cell? ⟨b, o, none⟩ = some (.int .i64 x.k) ∧ w.cell? ⟨b, o + 1, none⟩ = some (.int .i64 x.n) ∧ w.cell? ⟨b, o + 2, none⟩ = some (.string x.s) ∧ w.cell? ⟨b, o + 3, none⟩ = some (.int .i32 x.r)

/-- What a walk is told of a slice of values in parts. -/
def IsRaws (w : World) (a : Option Addr) (len : Nat) (q : Nat → Raw) : Prop :=
  0 < len → ∃ b off, a = some ⟨b, off, none⟩ ∧ ∀ k, k < len → RawAt w b (off + k * 4) (q k)

theorem RawAt.later {w w' : World} {b o : Nat} {x : Raw} (h : RawAt w b o x) (hb : Below w.heap.size w w') : RawAt w' b o x :=
  ⟨cell_later hb h.1, cell_later hb h.2.1, cell_later hb h.2.2.1, cell_later hb h.2.2.2⟩
theorem IsRaws.later {w w' : World} {a : Option Addr} {len : Nat} {q : Nat → Raw} (h : IsRaws w a len q) (hb : Below w.heap.size w w') : IsRaws w' a len q := fun hl => by
  obtain ⟨b, off, ha, hk⟩ := h hl
  exact ⟨b, off, ha, fun k hk' => (hk k hk').later hb⟩

def items (q : Nat → Raw) (n : Nat) : List Value := (List.range n).map fun i => (q i).atom.val
def listT (a : Option Addr) (n c : Nat) (q : Nat → Raw) : Tr := .lst a n c fun i => .one (q i).atom

theorem lies_own {w : World} {B n : Nat} {a : Option Addr} {c : Nat} {q : Nat → Raw} (h : w.ownsRow B 20 1 (.slice a n c) n (items q n)) : (listT a n c q).Lies w := by
  refine ⟨fun hn => ?_, fun _ _ => trivial⟩
  rcases h.2 with ⟨_, h0⟩ | ⟨g, cap, cur, hv, _, hg, hnc, _, hcs, htake⟩
  · omega
  · simp only [Value.slice.injEq, true_and] at hv
    obtain ⟨ha, rfl⟩ := hv
    refine ⟨g, cur, ha, hg, fun i hi => ?_⟩
    have h1 : (cur.toList.take (n * 1))[i]? = some (q i).atom.val := by rw [htake]; simp [items, hi]
    rw [List.getElem?_take_of_lt (by omega)] at h1
    rw [List.getElem?_eq_getElem (by rw [Array.length_toList]; omega)] at h1
    rw [Array.getElem?_eq_getElem (by omega)]
    exact h1

theorem info_any : (Tryd.prog.info? 20).map (fun i => (i.zero, i.size, i.bytes)) = some (some .nilIface, 1, 16) := by kernel_rfl

theorem own_later {w w' : World} {B n size : Nat} {e : TypeId} {v : Value} {L : List Value} (h : w.ownsRow B e size v n L) (hb : Below w.heap.size w w') : w'.ownsRow B e size v n L := by
  refine ⟨h.1, h.2.imp id ?_⟩
  rintro ⟨g, c, cur, hv, hg0, hg, hr⟩
  exact ⟨g, c, cur, hv, hg0, (hb.block g (Blk.lt hg)).trans hg, hr⟩

/-- What holds at each round's head of list. -/
def ListRel (q : Nat → Raw) (len : Nat) (w : World) (out i : Value) (wr : World) : Prop :=
  ∃ k : Nat, k ≤ len ∧ i = .int .i64 k ∧ (∃ a n c, out = .slice a n c) ∧ wr.ownsRow w.heap.size 20 1 out k (items q k) ∧ Below w.heap.size w wr

set_option maxHeartbeats 4000000 in
theorem list_any (a : Option Addr) (len cap : Nat) (q : Nat → Raw) (w : World) (h60 : len ≤ 60) (hq : IsRaws w a len q) :
    Calls Tryd.prog 15 #[.slice a len cap] w fun e w' => ∃ a' c', e = .returned (.slice a' len c') ∧ w'.ownsRow w.heap.size 20 1 (.slice a' len c') len (items q len) ∧ Below w.heap.size w w' := by
  have HQ := Lib.hid hq; clear hq
  obtain ⟨i0, hi0, hz0, hz1, hz2⟩ := info_parts info_any
  go_enter Tryd.func15, Tryd.ntmps15
  go_wp2_with fail
  go_loopw [3, 8] (fun out i wr => ListRel q len w out i wr) (fun _ i _ => len - (intOf i).toNat)
  case atStart => exact ⟨0, Nat.zero_le _, rfl, ⟨_, _, _, rfl⟩, ⟨rfl, .inl ⟨rfl, rfl⟩⟩, Below.refl _ _⟩
  case round =>
    obtain ⟨k, hk, rfl, ⟨va, vn, vc, rfl⟩, hown, B⟩ := hrel
    have HO := Lib.hid hown; clear hown
    by_cases hlt : k < len
    · obtain ⟨b, off, rfl, hc⟩ := HQ.out (by omega)
      obtain ⟨c0, c1, c2, c3⟩ := (hc k hlt).later B
      have M := Lib.hid (made_any (q k))
      have hitem : Hid (items q (k + 1) = items q k ++ [(q k).atom.val]) := by simp [Hid, items, List.range_succ]
      have hkind := Tr.val_kind (.one (q k).atom)
      simp only [Tr.val] at hkind
      clear hc HQ
      generalize (q k).atom.val = v at *
      generalize hqk : q k = x at *
      clear hqk
      obtain ⟨xk, xn, xs, xr⟩ := x
      simp only [Raw.val, Raw.cs] at M c0 c1 c2 c3
      have i0' : (0 : Int) ≤ (k : Int) := Int.natCast_nonneg _
      have i1' : (k : Int) < (len : Int) := by omega
      go_wp2_with fail
      refine (M.out _).mono ?_; rintro e w1 ⟨rfl, hb1⟩
      have HB : Hid (Below w.heap.size w w1) := keepB B ((((Below.refl _ wr).alloc (Nat.le_refl _) _).trans (hb1.mono (by simp))))
      have HO1 := Lib.hid (own_later (HO.out.alloc (.cells #[.int .i64 xk, .int .i64 xn, .string xs, .int .i32 xr] 23)) hb1)
      clear HO hb1 B M c0 c1 c2 c3
      rcases hkind with rfl | ⟨u, y, rfl⟩
      · skip
        go_wp2_with (at_builtin
                     refine wpList_append_own_at _ rfl (.tmp 12) (.tmp 15) 29 rfl w.heap.size 20 i0 _ 1 16 Tryd.underlying29 hi0 hz0 hz1 hz2 rfl (by omega) _ k (items q k) rfl
                       (HO1.out.alloc _) ⟨w1.heap.size, 0, none⟩ 1 1 [.nilIface] rfl rfl ?c1 ?c2 (by simp only [maxLen]; omega) (by omega) (by have := HB.out.size; simp; omega) ?_)
        case c1 =>
          intro j u hj
          match j, hj with
          | 0, hj => simp at hj; subst hj; rw [Addr.add_lit, Nat.zero_add]; exact (Blk.new _ _ _).cell 0
        case c2 => intro u hu; simp at hu; subst hu; rfl
        intro v' w2 hown hgrow _ hblk
        obtain ⟨a', n', c', rfl⟩ : ∃ a' n' c', v' = .slice a' n' c' := by
          rcases hown.2 with ⟨hv, _⟩ | ⟨g, cp, cur, hv, _⟩
          · exact ⟨_, _, _, hv⟩
          · exact ⟨_, _, _, hv⟩
        have HG := Lib.hid hgrow; clear hgrow
        have HN := Lib.hid hown; clear hown
        clear hblk
        go_wp2_with fail
        exact ⟨⟨k + 1, by omega, by go_num, ⟨_, _, _, rfl⟩, by rw [hitem.out]; exact HN.out, (HB.out.alloc (by have := HB.out.size; omega) _).grown HG.out (by have := HB.out.size; simp; omega) (fun g hg => (HO1.out.lt g hg).1)⟩, by simp [intOf]; omega⟩
      · skip
        go_wp2_with (at_builtin
                     refine wpList_append_own_at _ rfl (.tmp 12) (.tmp 15) 29 rfl w.heap.size 20 i0 _ 1 16 Tryd.underlying29 hi0 hz0 hz1 hz2 rfl (by omega) _ k (items q k) rfl
                       (HO1.out.alloc _) ⟨w1.heap.size, 0, none⟩ 1 1 [.iface u y] rfl rfl ?c1 ?c2 (by simp only [maxLen]; omega) (by omega) (by have := HB.out.size; simp; omega) ?_)
        case c1 =>
          intro j u hj
          match j, hj with
          | 0, hj => simp at hj; subst hj; rw [Addr.add_lit, Nat.zero_add]; exact (Blk.new _ _ _).cell 0
        case c2 => intro u hu; simp at hu; subst hu; rfl
        intro v' w2 hown hgrow _ hblk
        obtain ⟨a', n', c', rfl⟩ : ∃ a' n' c', v' = .slice a' n' c' := by
          rcases hown.2 with ⟨hv, _⟩ | ⟨g, cp, cur, hv, _⟩
          · exact ⟨_, _, _, hv⟩
          · exact ⟨_, _, _, hv⟩
        have HG := Lib.hid hgrow; clear hgrow
        have HN := Lib.hid hown; clear hown
        clear hblk
        go_wp2_with fail
        exact ⟨⟨k + 1, by omega, by go_num, ⟨_, _, _, rfl⟩, by rw [hitem.out]; exact HN.out, (HB.out.alloc (by have := HB.out.size; omega) _).grown HG.out (by have := HB.out.size; simp; omega) (fun g hg => (HO1.out.lt g hg).1)⟩, by simp [intOf]; omega⟩
    · obtain rfl : k = len := by omega
      go_wp2_with fail
      go_ret
      have ho := HO.out
      have hvn : vn = k := by
        rcases ho.2 with ⟨hv, h0⟩ | ⟨g, cp, cur, hv, _⟩
        · simp at hv; omega
        · simp at hv; omega
      subst hvn
      exact ⟨va, vc, rfl, ho, B⟩
end Go.Proofs.YtboagdmjibdlhaaDoor
