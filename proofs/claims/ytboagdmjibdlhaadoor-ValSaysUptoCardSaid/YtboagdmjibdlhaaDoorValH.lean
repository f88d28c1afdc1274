/- Contracts of same, and of Equal of any two values. -/
import Derived.Test.YtboagdmjibdlhaaDoorValG
namespace Go.Proofs.YtboagdmjibdlhaaDoor
open Go.RowKit

set_option maxHeartbeats 4000000 in
theorem same_any (a b : Atom) (w : World) : Calls Tryd.prog 42 #[a.val, b.val] w fun e w' => e = .returned (.bool (sameA a b)) ∧ w = w' := by
  have hI := taI_hit
  have hS := taS_hit
  have hR := taR_hit
  have mI := @taI_miss
  have mS := @taS_miss
  have mR := @taR_miss
  have nI := taI_nil
  have nS := taS_nil
  have nR := taR_nil
  cases a <;> cases b <;>
   (simp only [Atom.val]
    go_enter Tryd.func42, Tryd.ntmps42
    go_wp2
    go_ret
    exact ⟨rfl, rfl⟩)

section
variable {B p q cap m : Nat} {w w' : World} {st : List Fr}
theorem Wk.only {p' q' : Nat} (A : Wk w B p q cap m st) (ho : Only p' q' w w') (hk : Keeps w w') (h1 : p ≠ p') (h2 : p ≠ q') (h3 : q ≠ p') (h4 : q ≠ q') : Wk w' B p q cap m st :=
  ⟨A.own.only ho h1 h2, row_same A.path (ho.block q A.q_lt h3 h4), A.mark, A.nest.keep hk, A.few, A.big, A.base⟩
theorem Wk.below (A : Wk w B p q cap m st) (hb : Below w.heap.size w w') : Wk w' B p q cap m st :=
  ⟨A.own.below hb A.own.lt, row_same A.path (hb.block q A.q_lt), A.mark, A.nest.keep (Keeps.below hb), A.few, A.big, A.base⟩
theorem Wk.lower {B' : Nat} (A : Wk w B p q cap m st) (hB : B' ≤ B) : Wk w B' p q cap m st := by
  refine ⟨A.own, ⟨A.path.1, ?_⟩, A.mark, A.nest, A.few, A.big, Nat.le_trans hB A.base⟩
  rcases A.path.2 with h | ⟨g, c, cur, h1, h2, h3⟩
  · exact .inl h
  · exact .inr ⟨g, c, cur, h1, Nat.le_trans hB h2, h3⟩
theorem Wk.q_base (A : Wk w B p q cap m st) : B ≤ q := (A.path.lt q rfl).1
end

/-- Two walks apart from one another. -/
structure Two (w : World) (B px qx py qy : Nat) (sx sy : List Fr) : Prop where
  x : ∃ cap m, Wk w B px qx cap m sx
  y : ∃ cap m, Wk w B py qy cap m sy
  nx : sx ≠ []
  ny : sy ≠ []
  pp : px ≠ py
  pq : px ≠ qy
  qp : qx ≠ py
  qq : qx ≠ qy

/-- What holds at each round's head of Equal. -/
def EqRel (w : World) (B px py : Nat) (all : Bool) (k : Nat) (wr : World) : Prop :=
  ∃ qx qy sx sy, Two wr B px qx py qy sx sy ∧ Below B w wr ∧ (rem sx).length ≤ k ∧ sameE (rem sx) (rem sy) = all

theorem sameE_code {l r : List Ev} (h : code l ≠ code r) : sameE l r = false := by
  cases l with
  | nil => cases r with
    | nil => exact absurd rfl h
    | cons b r => cases b <;> simp [sameE]
  | cons a l => cases r with
    | nil => cases a <;> simp [sameE]
    | cons b r => cases a <;> cases b <;> simp_all [sameE, code]

/-- What begin leaves. -/
theorem begin_walk (x : Tr) (w : World) (hx : x.Lies w) (hev : x.evs.length ≤ 900000000) :
    Calls Tryd.prog 32 #[x.val] w fun e w' => ∃ p q, e = .returned (.pointer (some ⟨p, 0, none⟩)) ∧ (∃ cap m st, st ≠ [] ∧ rem st = x.evs ∧ Wk w' w.heap.size p q cap m st) ∧ Below w.heap.size w w' ∧ w.heap.size ≤ p ∧ w.heap.size ≤ q ∧ p < w'.heap.size ∧ q < w'.heap.size := by
  refine (begin_any x w hx hev).mono ?_
  rintro e w' ⟨rfl, A, hb, hs⟩
  exact ⟨_, _, rfl, ⟨1, 0, _, by simp, root_todo _ x, A⟩, hb, by omega, by omega, by omega, by omega⟩

/-- Behind a step of each walk. -/
theorem two_step {w w1 w2 : World} {B px qx py qy : Nat} {sx sy : List Fr} {lx ly : List Ev} {evx evy : Ev} (T : Two w B px qx py qy sx sy)
    (F1 : After B px qx (evx :: lx) w w1) (F2 : After B py qy (evy :: ly) w1 w2) : ∃ qx' qy' sx' sy', Two w2 B px qx' py qy' sx' sy' ∧ rem sx' = lx ∧ rem sy' = ly := by
  obtain ⟨capx, mx, Ax⟩ := T.x
  obtain ⟨capy, my, Ay⟩ := T.y
  obtain ⟨O1, qx', hq1, h1⟩ := F1
  obtain ⟨O2, qy', hq2, h2⟩ := F2
  obtain ⟨cx, mx', sx', nx, rx, Ax'⟩ := h1 _ _ rfl
  obtain ⟨cy, my', sy', ny, ry, Ay'⟩ := h2 _ _ rfl
  have hk2 : Keeps w1 w2 := (Ay.only O1 (Ax.keeps O1) T.pp.symm T.qp.symm T.pq.symm T.qq.symm).keeps O2
  have l1 := Ax.own.lt
  have l2 := Ax.q_lt
  have l3 := Ay.own.lt
  have l4 := Ay.q_lt
  have s1 := O1.size
  have pp := T.pp
  have pq := T.pq
  have qp := T.qp
  have qq := T.qq
  have n1 : qx' ≠ py := by rcases hq1 with h | h <;> omega
  have n2 : qx' ≠ qy := by rcases hq1 with h | h <;> omega
  have l5 := Ax'.q_lt
  refine ⟨qx', qy', sx', sy', ⟨⟨cx, mx', Ax'.only O2 hk2 pp pq n1 n2⟩, ⟨cy, my', Ay'⟩, nx, ny, pp, ?_, n1, ?_⟩, rx, ry⟩
  · rcases hq2 with h | h <;> omega
  · rcases hq2 with h | h <;> omega

theorem Two.second {w w1 : World} {B px qx py qy : Nat} {sx sy : List Fr} {evs : List Ev} (T : Two w B px qx py qy sx sy) (F1 : After B px qx evs w w1) : ∃ cap m, Wk w1 B py qy cap m sy := by
  obtain ⟨capx, mx, Ax⟩ := T.x
  obtain ⟨capy, my, Ay⟩ := T.y
  exact ⟨capy, my, Ay.only F1.1 (Ax.keeps F1.1) T.pp.symm T.qp.symm T.pq.symm T.qq.symm⟩

theorem Two.belowB {w0 w w1 w2 : World} {B px qx py qy : Nat} {sx sy : List Fr} {evs evs' : List Ev} (T : Two w B px qx py qy sx sy) (hB : B ≤ w.heap.size) (hb : Below B w0 w) (F1 : After B px qx evs w w1) (F2 : After B py qy evs' w1 w2) : Below B w0 w2 := by
  obtain ⟨capx, mx, Ax⟩ := T.x
  obtain ⟨capy, my, Ay⟩ := T.y
  have s1 := F1.1.size
  exact (F1.1.below hb hB Ax.base Ax.q_base |> fun h => F2.1.below h (by omega) Ay.base Ay.q_base)

set_option maxHeartbeats 800000 in
theorem equal_any (x y : Tr) (w : World) (hx : x.Lies w) (hy : y.Lies w) (ex : x.evs.length ≤ 900000000) (ey : y.evs.length ≤ 900000000) :
    Calls Tryd.prog 25 #[x.val, y.val] w fun e w' => e = .returned (.bool (sameE x.evs y.evs)) ∧ Below w.heap.size w w' := by
  have HX := Lib.hid hx; clear hx
  have HY := Lib.hid hy; clear hy
  generalize hall : sameE x.evs y.evs = all at *
  have HA := Lib.hid hall; clear hall
  go_enter Tryd.func25, Tryd.ntmps25
  go_wp2_with fail
  refine (begin_walk x _ HX.out ex).mono ?_; rintro e w1 ⟨px, qx, rfl, A1, B1, p1, q1, p1', q1'⟩
  go_wp2_with fail
  refine (begin_walk y _ (HY.out.keep (Keeps.below B1)) ey).mono ?_; rintro e w2 ⟨py, qy, rfl, A2, B2, p2, q2, p2', q2'⟩
  go_wp2_with fail
  have hb2 : Below w.heap.size w w2 := keepB B1 B2
  have hT : ∃ sx sy, Two w2 w.heap.size px qx py qy sx sy ∧ rem sx = x.evs ∧ rem sy = y.evs := by
    obtain ⟨c1, m1, s1, n1, r1, A1⟩ := A1
    obtain ⟨c2, m2, s2, n2, r2, A2⟩ := A2
    exact ⟨s1, s2, ⟨⟨c1, m1, A1.below B2⟩, ⟨c2, m2, A2.lower B1.size⟩, n1, n2, by omega, by omega, by omega, by omega⟩, r1, r2⟩
  have HT := Lib.hid hT
  clear hT A1 A2 B1 B2 p1 q1 p1' q1' p2 q2 p2' q2'
  go_loopg [] x.evs.length (fun k wr => EqRel w w.heap.size px py all k wr)
  case atStart =>
    obtain ⟨sx, sy, T, hrx, hry⟩ := HT.out
    exact ⟨qx, qy, sx, sy, T, hb2, by rw [hrx]; exact Nat.le_refl _, by rw [hrx, hry]; exact HA.out⟩
  case round =>
    clear hb2 HT HA HX HY ex ey
    obtain ⟨qx, qy, sx, sy, T, hb, hl, he⟩ := hrel
    have hB : w.heap.size ≤ wr.heap.size := hb.size
    have N1 := T.x.elim fun cap h => h.elim fun m A => next_any A T.nx
    have N2 : ∀ w1, After w.heap.size px qx (rem sx) wr w1 → Calls Tryd.prog 33 #[.pointer (some ⟨py, 0, none⟩)] w1 (fun e w' => e = .returned (.tuple #[.int .i64 (code (rem sy)), told (rem sy)]) ∧ After w.heap.size py qy (rem sy) w1 w') :=
      fun w1 h => (T.second h).elim fun cap h => h.elim fun m A => next_any A T.ny
    by_cases hc : code (rem sx) = code (rem sy)
    · cases hx : rem sx with
      | nil =>
        cases hy : rem sy with
        | nil =>
          rw [hx] at N1 he
          rw [hx, hy] at N2; rw [hy] at he
          have HT := Lib.hid T
          have HB := Lib.hid hb
          have M1 := Lib.hid N1
          have M2 := Lib.hid N2
          have hall : all = true := by rw [← he]; rfl
          subst hall
          clear T hb hl he N1 N2 hx hy hc
          simp only [code, told] at M1 M2
          go_wp2_with ((with_reducible refine M1.out.mono ?_); rintro e w3 ⟨rfl, F3⟩)
          go_wp2_with ((with_reducible refine (M2.out _ F3).mono ?_); rintro e w4 ⟨rfl, F4⟩)
          go_ret
          exact ⟨rfl, HT.out.belowB hB HB.out F3 F4⟩
        | cons ev ly => rw [hx, hy] at hc; cases ev <;> simp [code] at hc
      | cons ev lx =>
       rw [hx] at hc
       cases ev with
       | op =>
        cases hy : rem sy with
        | nil => rw [hy] at hc; simp [code] at hc
        | cons ev ly =>
          rw [hy] at hc
          cases ev <;> simp [code] at hc
          rw [hx] at N1 hl he
          rw [hx, hy] at N2; rw [hy] at he
          have HT := Lib.hid T
          have HB := Lib.hid hb
          have HE := Lib.hid he
          have HL := Lib.hid hl
          have M1 := Lib.hid N1
          have M2 := Lib.hid N2
          clear T hb hl he N1 N2 hx hy
          simp only [code, told] at M1 M2
          go_wp2_with ((with_reducible refine M1.out.mono ?_); rintro e w3 ⟨rfl, F3⟩)
          go_wp2_with ((with_reducible refine (M2.out _ F3).mono ?_); rintro e w4 ⟨rfl, F4⟩)
          have hlt : lx.length < gk := by have := HL.out; simp at this; omega
          go_roundg lx.length
          case measure => exact hlt
          case rel =>
            obtain ⟨qx', qy', sx', sy', T', rx, ry⟩ := two_step HT.out F3 F4
            exact ⟨qx', qy', sx', sy', T', HT.out.belowB hB HB.out F3 F4, by rw [rx]; exact Nat.le_refl _, by rw [rx, ry]; exact HE.out⟩
       | cl =>
        cases hy : rem sy with
        | nil => rw [hy] at hc; simp [code] at hc
        | cons ev ly =>
          rw [hy] at hc
          cases ev <;> simp [code] at hc
          rw [hx] at N1 hl he
          rw [hx, hy] at N2; rw [hy] at he
          have HT := Lib.hid T
          have HB := Lib.hid hb
          have HE := Lib.hid he
          have HL := Lib.hid hl
          have M1 := Lib.hid N1
          have M2 := Lib.hid N2
          clear T hb hl he N1 N2 hx hy
          simp only [code, told] at M1 M2
          go_wp2_with ((with_reducible refine M1.out.mono ?_); rintro e w3 ⟨rfl, F3⟩)
          go_wp2_with ((with_reducible refine (M2.out _ F3).mono ?_); rintro e w4 ⟨rfl, F4⟩)
          have hlt : lx.length < gk := by have := HL.out; simp at this; omega
          go_roundg lx.length
          case measure => exact hlt
          case rel =>
            obtain ⟨qx', qy', sx', sy', T', rx, ry⟩ := two_step HT.out F3 F4
            exact ⟨qx', qy', sx', sy', T', HT.out.belowB hB HB.out F3 F4, by rw [rx]; exact Nat.le_refl _, by rw [rx, ry]; exact HE.out⟩
       | one a =>
        cases hy : rem sy with
        | nil => rw [hy] at hc; simp [code] at hc
        | cons ev ly =>
          rw [hy] at hc
          cases ev <;> simp [code] at hc
          rename_i b
          rw [hx] at N1 hl he
          rw [hx, hy] at N2; rw [hy] at he
          have HT := Lib.hid T
          have HB := Lib.hid hb
          have HL := Lib.hid hl
          have M1 := Lib.hid N1
          have M2 := Lib.hid N2
          have HS := Lib.hid (same_any a b)
          clear T hb hl N1 N2 hx hy
          simp only [code, told] at M1 M2
          simp only [sameE] at he
          generalize a.val = va at *
          generalize b.val = vb at *
          cases hsm : sameA a b
          · rw [hsm] at he HS
            simp at he
            subst he
            clear hsm
            go_wp2_with ((with_reducible refine M1.out.mono ?_); rintro e w3 ⟨rfl, F3⟩)
            go_wp2_with ((with_reducible refine (M2.out _ F3).mono ?_); rintro e w4 ⟨rfl, F4⟩)
            go_wp2_with ((with_reducible refine (HS.out _).mono ?_); rintro e w5 ⟨rfl, rfl⟩)
            go_ret
            exact ⟨rfl, HT.out.belowB hB HB.out F3 F4⟩
          · rw [hsm] at he HS
            have HE := Lib.hid he
            clear he hsm
            go_wp2_with ((with_reducible refine M1.out.mono ?_); rintro e w3 ⟨rfl, F3⟩)
            go_wp2_with ((with_reducible refine (M2.out _ F3).mono ?_); rintro e w4 ⟨rfl, F4⟩)
            go_wp2_with ((with_reducible refine (HS.out _).mono ?_); rintro e w5 ⟨rfl, rfl⟩)
            have hlt : lx.length < gk := by have := HL.out; simp at this; omega
            go_roundg lx.length
            case measure => exact hlt
            case rel =>
              obtain ⟨qx', qy', sx', sy', T', rx, ry⟩ := two_step HT.out F3 F4
              exact ⟨qx', qy', sx', sy', T', HT.out.belowB hB HB.out F3 F4, by rw [rx]; exact Nat.le_refl _, by rw [rx, ry]; simpa using HE.out⟩
    · have hf := sameE_code hc
      rw [he] at hf
      subst hf
      have HF := Lib.hid T
      have HB := Lib.hid hb
      clear T hb hl he
      generalize rem sx = lx at *
      generalize rem sy = ly at *
      have hne : (code lx != code ly) = true := by simp [bne, hc]
      have M1 := Lib.hid N1
      have M2 := Lib.hid N2
      clear N1 N2 hc
      generalize code lx = cx at *
      generalize code ly = cy at *
      generalize told lx = tx at *
      generalize told ly = ty at *
      go_wp2_with ((with_reducible refine M1.out.mono ?_); rintro e w3 ⟨rfl, F3⟩)
      go_wp2_with ((with_reducible refine (M2.out _ F3).mono ?_); rintro e w4 ⟨rfl, F4⟩)
      go_ret
      exact ⟨rfl, HF.out.belowB hB HB.out F3 F4⟩
end Go.Proofs.YtboagdmjibdlhaaDoor
