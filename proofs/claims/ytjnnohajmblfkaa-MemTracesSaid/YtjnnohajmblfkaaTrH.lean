/- Contracts of begun and of the fixed answer. -/
import Derived.Test.YtjnnohajmblfkaaTrG
namespace Go.Proofs.Ytjnnohajmblfkaa
open Go.RowKit

theorem Ar.congr {w : World} {p g n cap : Nat} {c f f' : Nat → Int} (A : Ar w p g n cap c f) (h : ∀ k, k < n → f k = f' k) : Ar w p g n cap c f' := by
  obtain ⟨zs, hz, he⟩ := A.cells
  exact ⟨A.own, ⟨zs, hz, fun k hk => by rw [← h k hk]; exact he k hk⟩, A.le, A.few, fun k hk => by rw [← h k hk]; exact A.fit k hk⟩

/-- The numbers of a slice that came in. -/
def Nums (w : World) (a : Option Addr) (len : Nat) (f : Nat → Int) : Prop :=
  0 < len → ∃ b off, a = some ⟨b, off, none⟩ ∧ ∀ k, k < len → w.cell? ⟨b, off + k, none⟩ = some (.int .u64 (f k)) ∧ 0 ≤ f k ∧ f k ≤ 18446744073709551615

theorem Nums.later {w w' : World} {a : Option Addr} {len : Nat} {f : Nat → Int} (h : Nums w a len f) (hb : Below w.heap.size w w') : Nums w' a len f := by
  intro h0
  obtain ⟨b, off, e, hc⟩ := h h0
  exact ⟨b, off, e, fun k hk => ⟨cell_later hb (hc k hk).1, (hc k hk).2⟩⟩

def BegRel (f : Nat → Int) (n p g cap : Nat) (w : World) (i : Value) (wr : World) : Prop :=
  ∃ (k : Nat) (c : Nat → Int), k ≤ n ∧ i = .int .i64 k ∧ Ar wr p g n cap c (fun j => if j < k then f j else 0) ∧ CB c k ∧ Below w.heap.size w wr

/-- What begun leaves. -/
def Begun (n : Nat) (f : Nat → Int) (w : World) (e : Ending) (w' : World) : Prop :=
  ∃ (p g cap : Nat) (c : Nat → Int), e = .returned (.pointer (some ⟨p, 0, none⟩)) ∧ w.heap.size ≤ p ∧ w.heap.size ≤ g ∧ Ar w' p g n cap c f ∧ CB c n ∧ Below w.heap.size w w'

theorem few0 : CB zeroF 0 := fun _ => ⟨Int.le_refl _, Int.le_refl _⟩

set_option maxHeartbeats 4000000 in
theorem begun_any (a : Option Addr) (n cap : Nat) (f : Nat → Int) (w : World) (hn : n ≤ 60) (hs : Nums w a n f) :
    Calls Try.prog 8 #[.slice a n cap] w (Begun n f w) := by
  have HS := Lib.hid hs; clear hs
  go_enter Try.func8, Try.ntmps8
  go_wp2_with fail
  refine (new_yes n _ (by omega)).mono ?_; rintro e w1 ⟨rfl, A1, B1⟩
  go_wp2_with fail
  go_loopw [21] (fun i wr => BegRel f n (w.heap.size + 1) w.heap.size n w i wr) (fun i _ => n - (intOf i).toNat)
  case atStart => exact ⟨0, _, Nat.zero_le _, rfl, A1.congr fun k _ => by simp [zeroF], few0, B1⟩
  case round =>
    clear A1 B1
    obtain ⟨k, c, hk, rfl, A, hm, B⟩ := hrel
    by_cases hlt : k < n
    · obtain ⟨b, off, rfl, hcells⟩ := HS.out (by omega)
      obtain ⟨x0, f0, f1⟩ := hcells k hlt
      clear hcells
      have y0 := cell_later B x0
      clear x0
      go_wp2_with fail
      refine (store_yes A hlt f0 f1 hm (by omega)).mono ?_; rintro e w2 ⟨rfl, A2, O2⟩
      have HR : Hid (BegRel f n (w.heap.size + 1) w.heap.size n w (.int .i64 ((k : Int) + 1)) w2) := by
        refine ⟨k + 1, _, by omega, by go_num, A2.congr fun j _ => ?_, hm.upd 1, O2.below B B.size (by omega) (by omega)⟩
        by_cases e : j = k
        · subst e; simp [upd]
        · rw [upd_other _ _ e]
          by_cases e2 : j < k
          · rw [if_pos e2, if_pos (by omega)]
          · rw [if_neg e2, if_neg (by omega)]
      clear A B A2 O2 hm y0
      go_wp2_with fail
      exact ⟨HR.out, by simp [intOf]; omega⟩
    · have hkl : k = n := by omega
      have HR : Hid (Begun n f w (.returned (.pointer (some ⟨w.heap.size + 1, 0, none⟩))) wr) :=
        ⟨_, _, n, c, rfl, by omega, by omega, A.congr fun j hj => by rw [if_pos (by omega)], hm.more (by omega), B⟩
      clear A B hm hkl
      go_wp2_with fail
      go_ret
      exact HR.out

/-- A replay that is as it should. -/
theorem replay_all {p g n cap m : Nat} {c f : Nat → Int} {xs : List AccV} {w : World} (a : Option Addr) (cp : Nat) (A : Ar w p g n cap c f) (hm : CB c m) (hb : m ≤ 100000) (hl : xs.length ≤ 100000)
    (hx : ∀ w', Only p g w w' → IsAcc w' a xs) (hfit : ∀ x ∈ xs, x.s = true → x.fit) (hgood : GoodL n f xs) :
    Calls Try.prog 16 #[.iface 47 (plainV p), .slice a xs.length cp] w fun e w' =>
      ∃ c', e = .returned (.tuple #[.int .i64 xs.length, .bool true]) ∧ Ar w' p g n cap c' (playL n f xs) ∧ CB c' (m + xs.length) ∧ Only p g w w' := by
  refine (replay_any a cp A hm hb hl hx hfit).mono ?_
  rintro e w' ⟨k, c', hk, rfl, A', m', O', _, hbad⟩
  have hkl : k = xs.length := by
    rcases Nat.lt_or_ge k xs.length with h | h
    · have h1 := List.getElem?_eq_getElem h
      have h2 := hgood k _ h1
      rw [hbad _ h1] at h2
      cases h2
    · omega
  subst hkl
  rw [List.take_length] at A'
  exact ⟨c', by simp, A', m', O'⟩

/-- A row in a block of its own stays readable while an arena is accessed. -/
theorem isAcc_row {w : World} {base : Nat} {a : Option Addr} {cap p g : Nat} {xs : List AccV} {n cp : Nat} {c f : Nat → Int} (R : RowA w base (.slice a xs.length cap) xs) (A : Ar w p g n cp c f) : ∀ w', Only p g w w' → IsAcc w' a xs := by
  intro w' ho hne
  obtain ⟨zs, hz, _⟩ := A.cells
  rcases R.shape with ⟨_, h⟩ | ⟨r, cap', cs, hv, _, hb, _, _, hcs⟩
  · exact absurd h hne
  · cases hv
    have hb' := hb.only ho (hb.ne_ A.own (by decide)) (hb.ne_ hz (by decide))
    refine ⟨r, 0, rfl, fun k x hx => ?_⟩
    have := hcs k x hx
    rw [hb'.cell, hb'.cell, hb'.cell]
    simpa using this
end Go.Proofs.Ytjnnohajmblfkaa
