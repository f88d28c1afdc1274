/- A play whose rows aren't told any more: Begin, Link, Cut, List, Root. -/
import Derived.Test.YtahabfjngeicmaaZTovB
namespace Go.Proofs.Ytahabfjngeicmaa
open Go.RowKit Go.ChangeShapes Go.WideShapes Go.Deep Go.Joins
set_option maxRecDepth 100000

/-- A play whose rows aren't told any more. -/
structure XS (w0 W : World) (zb : Nat) (vc : Array Value) (V S T : Int) (n q p gb cap rb lb cr cl base : Nat) (gB : Nat → Nat) (g : Mg9) (ts : List Tp) (vr : Nat → Value) (rs : Nat → List (List Nat)) (gr : Nat → List (Option (Nat × Nat))) (c : Nat) : Prop where
  pg : ∃ m, m + c ≤ 950000 ∧ PG W V S T n q p gb cap rb lb cr cl base gB m g ts vr rs gr
  z : Blk W zb 27 vc
  be : Below w0.heap.size w0 W
  hb : w0.heap.size ≤ base
  n96 : nN V S ≤ 96
section
variable {w w' w0 : World} {zb k k' x m m' : Nat} {vc : Array Value} {V S T : Int} {n q p gb cap rb lb cr cl base : Nat} {gB : Nat → Nat} {g g' : Mg9} {ts ts' : List Tp} {vr : Nat → Value} {rs : Nat → List (List Nat)} {gr : Nat → List (Option (Nat × Nat))} {t : Tp}
theorem GX.xs (h : GX w0 w zb vc V S T n q p gb cap rb lb cr cl base gB g ts vr rs gr k) : XS w0 w zb vc V S T n q p gb cap rb lb cr cl base gB g ts vr rs gr k := by
  obtain ⟨m, h1, h2⟩ := h
  exact ⟨⟨m, h1, h2.pl.pg⟩, h2.z, h2.be, h2.hb, h2.pl.n96⟩
theorem XS.below (h : XS w0 w zb vc V S T n q p gb cap rb lb cr cl base gB g ts vr rs gr k) (hb : Below w.heap.size w w') : XS w0 w' zb vc V S T n q p gb cap rb lb cr cl base gB g ts vr rs gr k := by
  obtain ⟨⟨m, h1, h2⟩, h3, h4, h5, h6⟩ := h
  exact ⟨⟨m, h1, h2.below hb⟩, h3.below hb h3.lt, h4.trans (hb.mono h4.size), h5, h6⟩
theorem XS.drew (h : XS w0 w zb vc V S T n q p gb cap rb lb cr cl base gB g ts vr rs gr k) : XS w0 w.drew zb vc V S T n q p gb cap rb lb cr cl base gB g ts vr rs gr k := h.below (Below.refl _ _).drew
theorem XS.less (h : XS w0 w zb vc V S T n q p gb cap rb lb cr cl base gB g ts vr rs gr k) (hk : k' ≤ k) : XS w0 w zb vc V S T n q p gb cap rb lb cr cl base gB g ts vr rs gr k' := by
  obtain ⟨⟨m, h1, h2⟩, h3, h4, h5, h6⟩ := h
  exact ⟨⟨m, by omega, h2⟩, h3, h4, h5, h6⟩
theorem XS.tree (h3 : Blk w zb 27 vc) (h4 : Below w0.heap.size w0 w) (h5 : w0.heap.size ≤ base) (h6 : nN V S ≤ 96) (h2 : PG w V S T n q p gb cap rb lb cr cl base gB m g ts vr rs gr) (hf : FM w' V S T p gb cap m' g' ts') (ho : Only p gb w w') (hm : m' + k ≤ 950000) : XS w0 w' zb vc V S T n q p gb cap rb lb cr cl base gB g' ts' vr rs gr k :=
  ⟨⟨m', hm, h2.tree hf ho⟩, h3.treap h2.fm.tm ho (by decide) (by decide), Only.below h4 ho h4.size (Nat.le_trans h5 h2.bp) (Nat.le_trans h5 h2.bg), h5, h6⟩
theorem XS.pq (h : XS w0 w zb vc V S T n q p gb cap rb lb cr cl base gB g ts vr rs gr k) : PQ w q p rb lb n cr cl V S T := by obtain ⟨m, _, h1⟩ := h.pg; exact h1.blk
theorem XS.qlt (h : XS w0 w zb vc V S T n q p gb cap rb lb cr cl base gB g ts vr rs gr k) : q < w.heap.size := Blk.lt h.pq
theorem XS.fi (h : XS w0 w zb vc V S T n q p gb cap rb lb cr cl base gB g ts vr rs gr k) : FI V S g (fun _ => 0) ts := by obtain ⟨m, _, h1⟩ := h.pg; exact h1.fm.fi
theorem XS.tm (h : XS w0 w zb vc V S T n q p gb cap rb lb cr cl base gB g ts vr rs gr k) : ∃ m, TM w V S T p gb cap m g := by obtain ⟨m, _, h1⟩ := h.pg; exact ⟨m, h1.fm.tm⟩
theorem XS.li {v : Value} {l : List Nat} (h : XS w0 w zb vc V S T n q p gb cap rb lb cr cl base gB g ts vr rs gr k) (ho : Only p gb w w') (hl : LI w v l) : LI w' v l := by obtain ⟨m, h1⟩ := h.tm; exact hl.onlyT h1 ho
theorem XS.rsi {v : Value} {b : Nat} {rows : List (List Nat)} (h : XS w0 w zb vc V S T n q p gb cap rb lb cr cl base gB g ts vr rs gr k) (ho : Only p gb w w') (hv : RsI w b v rows) : RsI w' b v rows := by
  obtain ⟨m, hT⟩ := h.tm
  exact hv.kp (Kp.tree hT ho (by decide) (by decide)) (Kp.tree hT ho (by decide) (by decide))
theorem xroot (h : XS w0 w zb vc V S T n q p gb cap rb lb cr cl base gB g ts vr rs gr (k + 96)) (ht : t ∈ ts) (hx : x ∈ t.row) {xI : Int} (hxI : xI = (x : Int)) :
    Calls Try.prog 20 #[vTr V S T p, .int .i64 xI] w fun e w' => e = .returned (.int .i64 (t.root : Int)) ∧ XS w0 w' zb vc V S T n q p gb cap rb lb cr cl base gB g ts vr rs gr k ∧ Only p gb w w' := by
  obtain ⟨⟨m, h1, h2⟩, h3, h4, h5, h6⟩ := h
  refine (hroot h2.fm ht hx (by omega) hxI).mono ?_
  rintro e w' ⟨rfl, h7, h8⟩
  exact ⟨rfl, XS.tree h3 h4 h5 h6 h2 h7 h8 (by omega), h8⟩
theorem xlist (h : XS w0 w zb vc V S T n q p gb cap rb lb cr cl base gB g ts vr rs gr (k + 192)) (ht : t ∈ ts) {xI : Int} (hxI : xI = (t.root : Int)) :
    Calls Try.prog 15 #[vTr V S T p, .int .i64 xI] w fun e w' => ∃ v, e = .returned v ∧ LI w' v t.row ∧ XS w0 w' zb vc V S T n q p gb cap rb lb cr cl base gB g ts vr rs gr k ∧ Only p gb w w' := by
  obtain ⟨⟨m, h1, h2⟩, h3, h4, h5, h6⟩ := h
  refine (hlist h2.fm ht (by omega) hxI).mono ?_
  rintro e w' ⟨v, rfl, h7, _, h8, h9⟩
  exact ⟨v, rfl, h7, XS.tree h3 h4 h5 h6 h2 h8 h9 (by omega), h9⟩
theorem xbegin {L u : Nat} {a c : List Nat} (h : XS w0 w zb vc V S T n q p gb cap rb lb cr cl base gB g ts vr rs gr (k + 2900)) (hL : (L : Int) < lv V) (hu : (u : Int) < V) (ht : t ∈ ts) (hx : t.row = a ++ Xn V L u :: c) (hm : k ≥ 50000) :
    Calls Try.prog 16 #[vTr V S T p, .int .i64 (L : Int), .int .i64 (u : Int)] w fun e w' => ∃ g' ts' t', e = .returned (.int .i64 ((t'.root : Nat) : Int)) ∧ XS w0 w' zb vc V S T n q p gb cap rb lb cr cl base gB g' ts' vr rs gr k ∧ t' ∈ ts' ∧ t'.row = Xn V L u :: (c ++ a) ∧ (∀ s ∈ ts, s ≠ t → s ∈ ts') ∧ Only p gb w w' := by
  obtain ⟨⟨m, h1, h2⟩, h3, h4, h5, h6⟩ := h
  refine (tbegin h2.fm hL hu ht hx (by omega)).mono ?_
  rintro e w' ⟨g', ts', t', rfl, A, M, R, K, O⟩
  exact ⟨g', ts', t', rfl, XS.tree h3 h4 h5 h6 h2 A O (by omega), M, R, K, O⟩
variable {s1 c0 c1 t1 s2 : Tp} {L u v a x y e0 e1 : Nat} {a1 a2 b1 b2 aa bb : List Nat} {ts1 ts2 : List Tp} {mk : Nat → Nat}
theorem xlink (h : XS w0 w zb vc V S T n q p gb cap rb lb cr cl base gB g ts vr rs gr (k + 9700)) (hL : (L : Int) < lv V) (hu : (u : Int) < V) (hv : (v : Int) < V) (ha : (a : Int) < S) (hP : Four ts t s1 c0 c1 (Xn V L u) (Xn V L v) (An V S L a 0) (An V S L a 1) [] aa [] bb) (hm : k ≥ 150000) :
    Calls Try.prog 17 #[vTr V S T p, .int .i64 (L : Int), .int .i64 (a : Int), .int .i64 (u : Int), .int .i64 (v : Int)] w fun e w' => ∃ g' ts' t', e = .returned (.int .i64 ((t'.root : Nat) : Int)) ∧ XS w0 w' zb vc V S T n q p gb cap rb lb cr cl base gB g' ts' vr rs gr k ∧ t' ∈ ts' ∧ t'.row = (Xn V L u :: aa) ++ An V S L a 0 :: ((Xn V L v :: bb) ++ [An V S L a 1]) ∧ Only p gb w w' := by
  obtain ⟨⟨m, h1, h2⟩, h3, h4, h5, h6⟩ := h
  refine (tlink h2.fm hL hu hv ha hP (by omega)).mono ?_
  rintro e w' ⟨g', ts', t', rfl, A, M, R, _, O⟩
  exact ⟨g', ts', t', rfl, XS.tree h3 h4 h5 h6 h2 A O (by omega), M, by simpa using R, O⟩
theorem xcut (h : XS w0 w zb vc V S T n q p gb cap rb lb cr cl base gB g ts vr rs gr (k + 9700)) (hL : (L : Int) < lv V) (ha : (a : Int) < S) (ht : t ∈ ts) (hx : t.row = (x :: aa) ++ An V S L a 0 :: ((y :: bb) ++ [An V S L a 1])) (hm : k ≥ 150000) :
    Calls Try.prog 18 #[vTr V S T p, .int .i64 (L : Int), .int .i64 (a : Int)] w fun e w' => ∃ g' ts' ti tu, e = .returned (.tuple #[.int .i64 ((ti.root : Nat) : Int), .int .i64 ((tu.root : Nat) : Int)]) ∧ XS w0 w' zb vc V S T n q p gb cap rb lb cr cl base gB g' ts' vr rs gr k ∧ ti ∈ ts' ∧ tu ∈ ts' ∧ ti.row = y :: bb ∧ tu.row = x :: aa ∧ Only p gb w w' := by
  obtain ⟨⟨m, h1, h2⟩, h3, h4, h5, h6⟩ := h
  refine (tcut01 (pp := x :: aa) (qq := y :: bb) (rr := []) h2.fm hL ha ht ⟨hx, h2.fm.fi.one ht, by simp, by simp⟩ (by omega)).mono ?_
  rintro e w' ⟨g', ts', ti, tu, ct, dt, rfl, A, M1, M2, R1, R2, _, _, _, _, _, O⟩
  exact ⟨g', ts', ti, tu, rfl, XS.tree h3 h4 h5 h6 h2 A O (by omega), M1, M2, R1, by simpa using R2, O⟩
theorem xsame {bb : Bool} (h : XS w0 w zb vc V S T n q p gb cap rb lb cr cl base gB g ts vr rs gr (k + 192)) (hL : (L : Int) < lv V) (hu : (u : Int) < V) (hv : (v : Int) < V) (ht : t ∈ ts) (hx : Xn V L u ∈ t.row) (hs : s1 ∈ ts) (hy : Xn V L v ∈ s1.row) (hb : decide (t.root = s1.root) = bb) :
    Calls Try.prog 13 #[vTr V S T p, .int .i64 (L : Int), .int .i64 (u : Int), .int .i64 (v : Int)] w fun e w' => e = .returned (.bool bb) ∧ XS w0 w' zb vc V S T n q p gb cap rb lb cr cl base gB g ts vr rs gr k ∧ Only p gb w w' := by
  subst hb
  obtain ⟨⟨m, h1, h2⟩, h3, h4, h5, h6⟩ := h
  refine (tsame h2.fm hL hu hv ht hx hs hy (by omega)).mono ?_
  rintro e w' ⟨rfl, A, O⟩
  exact ⟨rfl, XS.tree h3 h4 h5 h6 h2 A O (by omega), O⟩
/-- Four trees, where two were begun. -/
theorem Four.begun (h : Four ts t s1 c0 c1 x y e0 e1 a1 a2 b1 b2) (hF : FI V S g mk ts) (R1 : t1.row = x :: (a2 ++ a1)) (R2 : s2.row = y :: (b2 ++ b1)) (h1 : t1 ∈ ts1) (K1 : ∀ z ∈ ts, z ≠ t → z ∈ ts1) (h2 : s2 ∈ ts2) (K2 : ∀ z ∈ ts1, z ≠ s1 → z ∈ ts2) : Four ts2 t1 s2 c0 c1 x y e0 e1 [] (a2 ++ a1) [] (b2 ++ b1) := by
  have xt : x ∈ t1.row := by rw [R1]; simp
  have yt : y ∈ s2.row := by rw [R2]; simp
  exact ⟨K2 _ h1 (hF.begun_ne h.hs h.ht h.st h.rt R1).symm, h2, K2 _ (K1 _ h.h0 h.t0) h.s0, K2 _ (K1 _ h.h1 h.t1) h.s1,
    fun e => h.st (hF.uniq h.hs h.ht (begun_mem h.rs R2 (e ▸ xt)) h.xt), hF.begun_ne h.h0 h.ht h.t0 h.rt R1, hF.begun_ne h.h1 h.ht h.t1 h.rt R1, hF.begun_ne h.h0 h.hs h.s0 h.rs R2, hF.begun_ne h.h1 h.hs h.s1 h.rs R2, h.d1, by simpa using R1, by simpa using R2, h.r0, h.r1⟩
end
end Go.Proofs.Ytahabfjngeicmaa
