/- What is said is small where what is read is. -/
import Derived.Test.YtboagdmjibdlhaaDoorValLSays
import Derived.Test.YtboagdmjibdlhaaDoorScanP
namespace Go.Proofs.YtboagdmjibdlhaaDoor
set_option maxRecDepth 100000
open Go.RowKit

theorem bulk_app {H : Type} : ∀ (a b : List (DataW H)), Rows.uptoBulkAll (a ++ b) = Rows.uptoBulkAll a + Rows.uptoBulkAll b
  | [], b => by simp [Rows.uptoBulkAll]
  | d :: a, b => by
    have := bulk_app a b
    simp only [List.cons_append, Rows.uptoBulkAll, this]
    omega
theorem bulk_dat {H : Type} (x : Raw) : Rows.uptoBulk (x.dat : DataW H) = x.s.data.toList.length + 5 := by
  simp [Raw.dat, Rows.uptoBulk, Rows.uptoBulkAll]
  omega
theorem enc_small (c : Int) : (Utf8.encode c).data.toList.length ≤ 4 := by
  unfold Utf8.encode
  dsimp only
  repeat' split
  all_goals simp
theorem txt_small (x : Raw) (hx : x.fit64) : (textA x.atom).data.toList.length ≤ x.s.data.toList.length + 21 := by
  rcases x.forms with ⟨_, h⟩ | ⟨_, h⟩ | ⟨_, h⟩ | ⟨_, h⟩ | ⟨_, v, h⟩ <;> rw [h]
  · have := Lib.itoa_length_le x.n hx.1 hx.2
    simp only [textA]
    omega
  · simp only [textA]; omega
  · have := enc_small x.r
    simp only [textA]
    omega
  · simp [textA]
  · simp [textA]

theorem want_small {H : Type} (q : Nat → Raw) : ∀ (n : Nat), (∀ k, k < n → (q k).fit64) → (wantL q n).length ≤ 1 + Rows.uptoBulkAll ((List.range n).map fun k => ((q k).dat : DataW H)) + 22 * n
  | 0, _ => by rw [wantL_zero]; simp
  | n + 1, hq => by
    have ih := want_small (H := H) q n fun k hk => hq k (by omega)
    have ht := txt_small (q n) (hq n (by omega))
    have hb := bulk_dat (H := H) (q n)
    rw [List.range_succ, List.map_append, bulk_app]
    simp only [List.map_cons, List.map_nil, Rows.uptoBulkAll, hb]
    rcases Nat.eq_zero_or_pos n with rfl | h0
    · rw [wantL_one, List.length_append]
      omega
    · rw [wantL_succ q n h0]
      simp only [List.length_append, List.length_cons, List.length_nil]
      omega

theorem says_small {H : Type} {x : Raw} {q : Nat → Raw} {len : Nat} {d0 d1 : DataW H} (hx : x.fits) (hq : ∀ k, k < len → (q k).fits) (h0 : d0 = x.dat) (h1 : len = 0 ∨ ∃ spare, d1 = .slice ((List.range len).map fun k => (q k).dat) spare)
    (hs : Rows.uptoSmall H ([d0, d1] ++ []) = true) : len ≤ 60 → (wantL q len).length + (textA x.atom).data.toList.length ≤ 100000000 := by
  intro hlen
  have hw := want_small (H := H) q len hq
  have ht := txt_small x hx
  have hb := bulk_dat (H := H) x
  have hs' : Rows.uptoBulkAll [d0, d1] ≤ 1048576 := of_decide_eq_true (p := Rows.uptoBulkAll ([d0, d1] ++ []) ≤ 1048576) hs
  simp only [Rows.uptoBulkAll] at hs'
  rw [h0, hb] at hs'
  rcases h1 with rfl | ⟨spare, rfl⟩
  · simp [Rows.uptoBulkAll] at hw
    omega
  · simp only [Rows.uptoBulk] at hs'
    omega

theorem valSays_all (x : Raw) (a : Option Addr) (len cap : Nat) (q : Nat → Raw) (w : World) (hq : IsRaws w a len q) (hP : Pows w) (hx : x.fits) (hqf : ∀ k, k < len → (q k).fits) (hl : len ≤ 60 → (wantL q len).length + (textA x.atom).data.toList.length ≤ 100000000) :
    Calls Tryd.prog 3 #[x.val, .slice a len cap] w fun e w' => e = .returned (.bool true) ∧ Below w.heap.size w w' :=
  valSays_walk x hx a len cap q w hq hP hqf hl
end Go.Proofs.YtboagdmjibdlhaaDoor
