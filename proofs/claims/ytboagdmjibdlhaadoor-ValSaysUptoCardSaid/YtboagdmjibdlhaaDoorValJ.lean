/- Contracts of sayOne and of Say of any value. -/
import Derived.Test.YtboagdmjibdlhaaDoorValI
import Derived.Lib.SmallJoins
import Derived.Lib.AppendIntMem
namespace Go.Proofs.YtboagdmjibdlhaaDoor
set_option maxRecDepth 100000
open Go.RowKit

/-- The text of a value that is no list. -/
def textA : Atom → ByteArray
  | .num n => ⟨(Lib.itoa n).toArray⟩
  | .txt s => s
  | .sgn r => Utf8.encode r
  | _ => ⟨#[63]⟩

/-- The table of powers of ten. -/
def Pows (w : World) : Prop := Lib.TabIs Tryd.prog w "internal/strconv.uint64pow10" .u64 Lib.pow10Tab
theorem pows_global : Tryd.prog.globalNamed "internal/strconv.uint64pow10" = some 0 := by kernel_rfl
theorem Pows.below {w w' : World} (h : Pows w) (hb : Below w.heap.size w w') : Pows w' := Go.Joins.tab_stays pows_global h hb (Nat.le_refl _)

/-- A number that is small, or any, where the table lies. -/
def Says (w : World) : Atom → Prop
  | .num n => (0 ≤ n ∧ n < 100) ∨ (-9223372036854775808 ≤ n ∧ n ≤ 9223372036854775807 ∧ Pows w)
  | _ => True
theorem Says.below {w w' : World} {a : Atom} (h : Says w a) (hb : Below w.heap.size w w') : Says w' a := by
  cases a <;> try exact trivial
  exact h.imp id (fun ⟨h1, h2, h3⟩ => ⟨h1, h2, h3.below hb⟩)

set_option maxHeartbeats 1000000 in
theorem say_one (a : Atom) (w : World) (hs : Says w a) : Calls Tryd.prog 37 #[a.val] w fun e w' => e = .returned (.string (textA a)) ∧ Below w.heap.size w w' := by
  have hI := taI_hit
  have hS := taS_hit
  have hR := taR_hit
  have mI := @taI_miss
  have mS := @taS_miss
  have mR := @taR_miss
  have nI := taI_nil
  have nS := taS_nil
  have nR := taR_nil
  cases a with
  | num n =>
    rcases hs with ⟨h0, h1⟩ | ⟨h0, h1, hp⟩
    · obtain ⟨i, rfl⟩ := Int.eq_ofNat_of_zero_le h0
      have hit : Lib.itoa (i : Int) = Lib.decDigits i := by simp [Lib.itoa]
      simp only [Atom.val, textA, hit]
      clear hit
      go_enter Tryd.func37, Tryd.ntmps37
      go_wp2_with fail
      refine (Tryd.strconv_Itoa_small i (by omega) _).mono ?_
      rintro e w' ⟨rfl, rfl⟩
      go_wp2_with fail
      go_ret
      exact ⟨rfl, Below.refl _ _⟩
    · simp only [Atom.val, textA]
      have HP := Lib.hid hp; clear hp
      generalize hit : (⟨(Lib.itoa n).toArray⟩ : ByteArray) = tx at *
      go_enter Tryd.func37, Tryd.ntmps37
      go_wp2_with fail
      refine (Tryd.strconv_Itoa n h0 h1 _ HP.out).mono ?_
      rw [hit]
      rintro e w' ⟨rfl, k, os, rfl⟩
      go_wp2_with fail
      go_ret
      exact ⟨rfl, Lib.below_grow _ _ (Nat.le_refl _) _ _⟩
  | txt s =>
    simp only [Atom.val, textA]
    go_enter Tryd.func37, Tryd.ntmps37
    go_wp2
    go_ret
    exact ⟨rfl, Below.refl _ _⟩
  | sgn r =>
    simp only [Atom.val, textA]
    go_enter Tryd.func37, Tryd.ntmps37
    go_wp2
    go_ret
    exact ⟨rfl, Below.refl _ _⟩
  | flt v =>
    simp only [Atom.val, textA]
    go_enter Tryd.func37, Tryd.ntmps37
    go_wp2
    go_ret
    exact ⟨rfl, Below.refl _ _⟩
  | nil =>
    simp only [Atom.val, textA]
    go_enter Tryd.func37, Tryd.ntmps37
    go_wp2
    go_ret
    exact ⟨rfl, Below.refl _ _⟩

/-- The text of what is left, behind an item or not. -/
def sayE : Bool → List Ev → List UInt8
  | _, [] => []
  | bh, .op :: r => (if bh then [32] else []) ++ 40 :: sayE false r
  | _, .cl :: r => 41 :: sayE true r
  | bh, .one a :: r => (if bh then [32] else []) ++ ((textA a).data.toList ++ sayE true r)

section
variable {B b p q cap m : Nat} {w w' : World} {st : List Fr} {l : List UInt8}
theorem Bld.blk (h : Bld w B b l) : ∃ cs, Blk w b 59 cs := by
  rcases h with ⟨_, v, h, _⟩ | ⟨_, v, h, _⟩
  · exact ⟨_, h⟩
  · exact ⟨_, h⟩
theorem Bld.base (h : Bld w B b l) : B ≤ b := by
  rcases h with ⟨h, _⟩ | ⟨h, _⟩
  · exact h
  · exact h

theorem others_blk {t : TypeId} {g : Nat} {cs : Array Value} (ho : Lib.OthersKept 5 (some b) w w') (h : Blk w g t cs) (hg : g ≠ b) (ht : t ≠ 5) : Blk w' g t cs :=
  ho g _ h (fun e => hg (Option.some.inj e)) (fun c fz e => by injection e with _ e; exact ht e)

theorem Bld.keeps (h : Bld w B b l) (ho : Kept B b w w') : Keeps w w' := fun g cs hg => by
  obtain ⟨ds, hd⟩ := h.blk
  exact others_blk ho.2 hg (Blk.ne_ hg hd (by decide)) (by decide)

theorem Wk.others (A : Wk w B p q cap m st) (h : Bld w B b l) (ho : Kept B b w w') : Wk w' B p q cap m st := by
  obtain ⟨ds, hd⟩ := h.blk
  obtain ⟨cs, hq⟩ := A.q_blk
  have hq' := others_blk ho.2 hq (Blk.ne_ hq hd (by decide)) (by decide)
  exact ⟨others_blk ho.2 A.own (Blk.ne_ A.own hd (by decide)) (by decide), row_same A.path (hq'.trans hq.symm), A.mark, A.nest.keep (h.keeps ho), A.few, A.big, A.base⟩

theorem Bld.only (h : Bld w B b l) (ho : Only p q w w') {tp tq : TypeId} {cp cq : Array Value} (hp : Blk w p tp cp) (hq : Blk w q tq cq) (n1 : tp ≠ 59) (n2 : tp ≠ 5) (n3 : tq ≠ 59) (n4 : tq ≠ 5) : Bld w' B b l := by
  have key : ∀ v0, Lib.BuilderAtF 59 5 B b v0 (Lib.byteCells l) w → Lib.BuilderAtF 59 5 B b v0 (Lib.byteCells l) w' := by
    rintro v0 ⟨hB, v, hb, hown, hne⟩
    have hbp : b ≠ p := (Blk.ne_ hp hb n1).symm
    have hbq : b ≠ q := (Blk.ne_ hq hb n3).symm
    refine ⟨hB, v, (ho.block b (Blk.lt hb) hbp hbq).trans hb, ⟨hown.1, ?_⟩, hne⟩
    rcases hown.2 with h | ⟨g, c, cur, fz, hv, hg0, hg, hr⟩
    · exact .inl h
    · refine .inr ⟨g, c, cur, fz, hv, hg0, (ho.block g (by rcases Nat.lt_or_ge g w.heap.size with h | h; exact h; rw [Array.getElem?_eq_none h] at hg; cases hg) ?_ ?_).trans hg, hr⟩
      · rintro rfl
        unfold Blk at hp
        rw [hg] at hp
        injection hp with hp
        injection hp with _ e
        exact n2 e.symm
      · rintro rfl
        unfold Blk at hq
        rw [hg] at hq
        injection hq with hq
        injection hq with _ e
        exact n4 e.symm
  exact h.imp (key _) (key _)

theorem Bld.below (h : Bld w B b l) (hb : Below w.heap.size w w') : Bld w' B b l := by
  have key : ∀ v0, Lib.BuilderAtF 59 5 B b v0 (Lib.byteCells l) w → Lib.BuilderAtF 59 5 B b v0 (Lib.byteCells l) w' := by
    rintro v0 ⟨hB, v, hbk, hown, hne⟩
    refine ⟨hB, v, (hb.block b (Blk.lt hbk)).trans hbk, ⟨hown.1, ?_⟩, hne⟩
    rcases hown.2 with h | ⟨g, c, cur, fz, hv, hg0, hg, hr⟩
    · exact .inl h
    · exact .inr ⟨g, c, cur, fz, hv, hg0, (hb.block g (by rcases Nat.lt_or_ge g w.heap.size with h | h; exact h; rw [Array.getElem?_eq_none h] at hg; cases hg)).trans hg, hr⟩
  exact h.imp (key _) (key _)
end

theorem wba_any (B b : Nat) (l : List UInt8) (s : ByteArray) (w : World) (h : Bld w B b l) (hlen : l.length + s.data.toList.length ≤ 140737488355328) (hBw : B ≤ w.heap.size) :
    Calls Tryd.prog 36 #[.pointer (some ⟨b, 0, none⟩), .string s] w fun e w' => ∃ v, e = .returned v ∧ Bld w' B b (l ++ s.data.toList) ∧ Kept B b w w' := by
  have := wstr_any B b l s.data.toList w h hlen hBw
  rw [show (⟨s.data.toList.toArray⟩ : ByteArray) = s by simp] at this
  exact this
end Go.Proofs.YtboagdmjibdlhaaDoor
