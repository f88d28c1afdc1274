/- The texts that ValSays asks for. -/
import Derived.Test.YtboagdmjibdlhaaDoorValT
namespace Go.Proofs.YtboagdmjibdlhaaDoor
set_option maxRecDepth 100000
open Go.RowKit

/-- The texts of values one by one, a blank ahead of each but the first (bh: there was one). -/
def bodyS : Bool → List Atom → List UInt8
  | _, [] => []
  | bh, a :: l => (if bh then [32] else []) ++ ((textA a).data.toList ++ bodyS true l)

theorem sayE_ones : ∀ (l : List Atom) (bh : Bool) (r : List Ev), sayE bh (l.map Ev.one ++ .cl :: r) = bodyS bh l ++ 41 :: sayE true r
  | [], bh, r => by simp [sayE, bodyS]
  | a :: l, bh, r => by
    have h := sayE_ones l true r
    simp only [List.map_cons, List.cons_append, sayE, bodyS, h, List.append_assoc]

theorem bodyS_more : ∀ (l : List Atom) (bh : Bool) (a : Atom), bodyS bh (l ++ [a]) = bodyS bh l ++ ((if bh || !l.isEmpty then [32] else []) ++ (textA a).data.toList)
  | [], bh, a => by simp [bodyS]
  | b :: l, bh, a => by
    have h := bodyS_more l true a
    simp [bodyS, h]

theorem atoms_succ (q : Nat → Raw) (k : Nat) : atoms q (k + 1) = atoms q k ++ [(q k).atom] := by simp [atoms, List.range_succ]

/-- What the law wants of the first k. -/
def wantL (q : Nat → Raw) (k : Nat) : List UInt8 := 40 :: bodyS false (atoms q k)
theorem wantL_zero (q : Nat → Raw) : wantL q 0 = [40] := rfl
theorem wantL_one (q : Nat → Raw) : wantL q 1 = wantL q 0 ++ (textA (q 0).atom).data.toList := by
  simp [wantL, atoms, bodyS]
theorem wantL_succ (q : Nat → Raw) (k : Nat) (hk : 0 < k) : wantL q (k + 1) = wantL q k ++ [32] ++ (textA (q k).atom).data.toList := by
  have hne : (atoms q k).isEmpty = false := by
    cases h : atoms q k with
    | nil => have := congrArg List.length h; simp [atoms] at this; omega
    | cons a l => rfl
  simp only [wantL, atoms_succ, bodyS_more, hne]
  simp
theorem wantL_mono (q : Nat → Raw) (k : Nat) : (wantL q k).length ≤ (wantL q (k + 1)).length := by
  rcases Nat.eq_zero_or_pos k with rfl | h
  · rw [wantL_one]; simp
  · rw [wantL_succ q k h]; simp
theorem wantL_le (q : Nat → Raw) {k n : Nat} (h : k ≤ n) : (wantL q k).length ≤ (wantL q n).length := by
  induction h with
  | refl => exact Nat.le_refl _
  | step _ ih => exact Nat.le_trans ih (wantL_mono q _)

theorem say_listT (a : Option Addr) (n c : Nat) (q : Nat → Raw) : sayE false (listT a n c q).evs = wantL q n ++ [41] := by
  rw [listT_evs]
  simp only [sayE, sayE_ones, wantL]
  simp
theorem say_pairT (g : Nat) (a : Option Addr) (n c : Nat) (q : Nat → Raw) (x : Atom) : sayE false (pairT g a n c q x).evs = 40 :: (wantL q n ++ [41]) ++ [32] ++ (textA x).data.toList ++ [41] := by
  rw [pairT_evs]
  simp only [sayE, sayE_ones, wantL]
  simp

/-- What may be said: numbers of 64 bits, where the table lies. -/
theorem Raw.says (x : Raw) (hx : x.fit64) {w : World} (hp : Pows w) : Says w x.atom := by
  rcases x.forms with ⟨_, h⟩ | ⟨_, h⟩ | ⟨_, h⟩ | ⟨_, h⟩ | ⟨_, v, h⟩ <;> rw [h]
  · exact .inr ⟨hx.1, hx.2, hp⟩
  all_goals exact trivial

theorem say_atom (x : Raw) (hx : x.fit64) (hl : (textA x.atom).data.toList.length ≤ 1000000000) (w : World) (hp : Pows w) :
    Calls Tryd.prog 13 #[x.atom.val] w fun e w' => e = .returned (.string (textA x.atom)) ∧ Below w.heap.size w w' := by
  have h := say_any (.one x.atom) w trivial (by show 1 ≤ 900000000; decide) (fun a ha => by simp [Tr.evs] at ha; subst ha; exact x.says hx hp) (by simp [Tr.evs, sayE]; simp at hl; omega)
  have e : (⟨(sayE false (Tr.one x.atom).evs).toArray⟩ : ByteArray) = textA x.atom := by simp [Tr.evs, sayE]
  rw [e] at h
  exact h

theorem say_list (a : Option Addr) (n c : Nat) (q : Nat → Raw) (hn : n ≤ 60) (hq : ∀ k, k < n → (q k).fit64) (hl : (wantL q n).length ≤ 1000000000) (w : World) (hp : Pows w) (h : (listT a n c q).Lies w) :
    Calls Tryd.prog 13 #[.iface 29 (.slice a n c)] w fun e w' => e = .returned (.string ⟨(wantL q n ++ [41]).toArray⟩) ∧ Below w.heap.size w w' := by
  have h := say_any (listT a n c q) w h (listT_small a n c q (by omega)) (fun b hb => by
    rw [listT_evs] at hb
    simp [atoms] at hb
    obtain ⟨i, hi, rfl⟩ := hb
    exact (q i).says (hq i hi) hp) (by rw [say_listT]; simp; omega)
  rw [say_listT] at h
  exact h

theorem say_pair (g : Nat) (a : Option Addr) (n c : Nat) (q : Nat → Raw) (x : Raw) (hn : n ≤ 60) (hq : ∀ k, k < n → (q k).fit64) (hx : x.fit64) (hl : (wantL q n).length + (textA x.atom).data.toList.length ≤ 1000000000) (w : World) (hp : Pows w)
    (h : Blk w g 20 #[.iface 29 (.slice a n c), x.atom.val]) (h' : (listT a n c q).Lies w) :
    Calls Tryd.prog 13 #[.iface 29 (.slice (some ⟨g, 0, none⟩) 2 2)] w fun e w' => e = .returned (.string ⟨(40 :: (wantL q n ++ [41]) ++ [32] ++ (textA x.atom).data.toList ++ [41]).toArray⟩) ∧ Below w.heap.size w w' := by
  have h := say_any (pairT g a n c q x.atom) w (pairT_lies h h') (by rw [pairT_evs]; simp [atoms]; omega) (fun b hb => by
    rw [pairT_evs] at hb
    simp [atoms] at hb
    rcases hb with ⟨i, hi, rfl⟩ | rfl
    · exact (q i).says (hq i hi) hp
    · exact x.says hx hp) (by rw [say_pairT]; simp at hl ⊢; omega)
  rw [say_pairT] at h
  exact h
end Go.Proofs.YtboagdmjibdlhaaDoor
