/- Contracts of Copy and Equal. -/
import Derived.Test.YtjnnohajmblfkaaCellC
namespace Go.Proofs.Ytjnnohajmblfkaa
open Go.RowKit

/-- What a copy leaves: another arena, the same; nothing old has turned. -/
def Copied (n : Nat) (c f : Nat → Int) (w : World) (e : Ending) (w' : World) : Prop :=
  ∃ p g cap, e = .returned (.pointer (some ⟨p, 0, none⟩)) ∧ w.heap.size ≤ p ∧ w.heap.size ≤ g ∧ Ar w' p g n cap c f ∧ Below w.heap.size w w'

theorem keepB {w0 W w1 : World} (h : Below w0.heap.size w0 W) (hb : Below W.heap.size W w1) : Below w0.heap.size w0 w1 := h.trans (hb.mono h.size)

theorem bcell {W w1 : World} (hb : Below W.heap.size W w1) : (∀ b o, b < W.heap.size → w1.cell? ⟨b, o, none⟩ = W.cell? ⟨b, o, none⟩) ∧ (∀ b o, b < W.heap.size → w1.frozen? ⟨b, o, none⟩ = W.frozen? ⟨b, o, none⟩) :=
  ⟨fun b o h => hb.cell (p := ⟨b, o, none⟩) h, fun b o h => hb.frozen (p := ⟨b, o, none⟩) h⟩

theorem cell_later {W w1 : World} {a : Addr} {v : Value} (hb : Below W.heap.size W w1) (h : W.cell? a = some v) : w1.cell? a = some v := by
  have hl : a.block < W.heap.size := World.block_lt_of_cell? _ _ h
  exact (hb.cell hl).trans h

section
variable {p g n cap : Nat} {c f : Nat → Int} {w : World}
set_option maxHeartbeats 2000000 in
theorem copy_any (A : Ar w p g n cap c f) :
    Calls Try.prog 9 #[.pointer (some ⟨p, 0, none⟩)] w (Copied n c f w) := by
  have h0 := A.c0
  have h1 := A.c1
  have h2 := A.c2
  have h3 := A.c3
  have h4 := A.c4
  have h5 := A.c5
  have hp := A.p_lt
  have hn := A.few
  obtain ⟨zs, hz, he⟩ := A.cells
  have HE := Lib.hid he; clear he
  have hA := Lib.hid A; clear A
  go_enter Try.func9, Try.ntmps9
  go_wp2_with fail
  go_region_held3 (fun w' => w'.cell? ⟨p, 0, none⟩ = some (.slice (some ⟨g, 0, none⟩) n cap) ∧ w'.cell? ⟨p, 1, none⟩ = some (.int .i64 (c 0)) ∧ w'.cell? ⟨p, 2, none⟩ = some (.int .i64 (c 1)) ∧ w'.cell? ⟨p, 3, none⟩ = some (.int .i64 (c 2)) ∧ w'.cell? ⟨p, 4, none⟩ = some (.int .i64 (c 3)) ∧ w'.cell? ⟨p, 5, none⟩ = some (.int .i64 (c 4)))
    (first | go_keep | exact (And.imp (cell_later hb1) (And.imp (cell_later hb1) (And.imp (cell_later hb1) (And.imp (cell_later hb1) (And.imp (cell_later hb1) (cell_later hb1)))))) (by assumption))
    (first | ((with_reducible refine (clone_any g n cap f _ hn zs hz.drew HE.out).mono ?_); rintro e w1 ⟨g', cap', rfl, hg', hnc, HZ, hb1⟩))
  all_goals go_wp2_with fail
  go_ret
  obtain ⟨zs', hz', he'⟩ := HZ
  have hg2 : w.heap.size ≤ g' := hg'
  have hs : w.heap.size ≤ w1.heap.size := hb1.size
  refine ⟨w1.heap.size, g', cap', by simp, hs, hg2, ⟨Blk.new w1 _ _, ⟨zs', hz'.alloc _, he'⟩, hnc, hn, hA.out.fit⟩, ?_⟩
  exact Below.alloc (⟨hb1.os, hb1.tape, hb1.output, hb1.size, hb1.block⟩ : Below w.heap.size w w1) hs _

theorem aequal_any {p' g' cap' : Nat} {c' h : Nat → Int} (A : Ar w p g n cap c f) (B : Ar w p' g' n cap' c' h) :
    Calls Try.prog 14 #[.pointer (some ⟨p, 0, none⟩), .pointer (some ⟨p', 0, none⟩)] w fun e w' => e = .returned (.bool (sameB n f h)) ∧ ∃ m, w' = w.drewN m := by
  have h0 := A.c0
  have h1 := B.c0
  have hn := A.few
  have hA := Lib.hid A; clear A
  have hB := Lib.hid B; clear B
  go_enter Try.func14, Try.ntmps14
  go_wp2_with fail
  go_quiet ((go_at_call 24; exact Calls.quiet_of (equal_any g g' n cap cap' f h _ hn (fun k hk => (hA.out.drewN _).cell hk) (fun k hk => (hB.out.drewN _).cell hk))))
  go_wp2_with fail
  go_ret
  exact ⟨rfl, _, rfl⟩
end
end Go.Proofs.Ytjnnohajmblfkaa
