/- The beginning of PtrPens and PtrSeen: plain words; and a map beside the statement's memory. -/
import Derived.Test.YtipjbgkfhkidkaaPtrN
import Derived.Test.YtipjbgkfhkidkaaSetI
namespace Go.Proofs.Ytipjbgkfhkidkaa
open Go.RowKit

set_option maxRecDepth 100000

/-- Nobody has written. -/
def Sx0 (n : Nat → Int) : Sx := ⟨fun _ => 0, fun _ => false, fun _ => false, fun _ => 0, n⟩
theorem rp_zero : Rp zeroF (Sx0 zeroF) := by
  refine ⟨fun q _ => by simp [zeroF, Sx0, stateV], fun _ _ => by simp [Sx0], fun _ _ => by simp [Sx0, zeroF], fun _ _ => by simp [Sx0], fun j _ => by simp [Sx0, Sx.O, Sx.T, Sx.G, zeroF, bitsW]⟩
theorem rp_plain {f n : Nat → Int} {j : Nat} {y : Int} (h : Rp f (Sx0 n)) (_hj : j < 4) (h0 : 0 ≤ y) (h1 : y ≤ 65535) : Rp (upd f (atK j) (y * 65537)) (Sx0 (upd n j y)) := by
  refine ⟨fun q hq => ?_, fun _ _ => by simp [Sx0], fun i hi => ?_, fun _ _ => by simp [Sx0], fun i hi => ?_⟩
  · rw [upd_other _ _ (by have := atK_ge j; omega)]; exact h.st q hq
  · show 0 ≤ upd n j y i ∧ upd n j y i ≤ 65535
    by_cases e : i = j
    · subst e; rw [upd_same]; exact ⟨h0, h1⟩
    · rw [upd_other _ _ e]; exact h.bn i hi
  · have e1 : (Sx0 (upd n j y)).O i = upd n j y i := rfl
    have e2 : (Sx0 (upd n j y)).n i = upd n j y i := rfl
    have e3 : (Sx0 (upd n j y)).T i = 0 := rfl
    have e4 : (Sx0 (upd n j y)).G i = 0 := rfl
    rw [e1, e2, e3, e4]
    by_cases e : i = j
    · subst e; rw [upd_same, upd_same]; unfold bitsW; omega
    · rw [upd_other _ _ (fun e' => e (atK_inj e')), upd_other _ _ e]
      exact h.cl i hi

/-- An arena, and variables that nobody turns. -/
structure P0 (w0 : World) (p g m : Nat) (L : List (Nat × TypeId × Array Value)) (x : Sx) (W : World) : Prop where
  ma : MA W p g m x
  ks : KS w0 L W
  np : w0.heap.size ≤ p
  ng : w0.heap.size ≤ g

section
variable {w0 W W' : World} {p g m m' tb sb wb cb k j : Nat} {L : List (Nat × TypeId × Array Value)} {x x' y : Sx} {n : Nat → Int} {z : Int} {l : List Int}
theorem P0.first (A : Ar W p g 42 42 zeroF zeroF) (hb : Below w0.heap.size w0 W) (np : w0.heap.size ≤ p) (ng : w0.heap.size ≤ g) : P0 w0 p g 0 [] (Sx0 zeroF) W := ⟨⟨_, _, A, cb_zero, rp_zero⟩, ⟨trivial, hb⟩, np, ng⟩
theorem P0.below (h : P0 w0 p g m L x W) (hb : Below W.heap.size W W') : P0 w0 p g m L x W' := ⟨h.ma.below hb, h.ks.below hb, h.np, h.ng⟩
theorem P0.drew (h : P0 w0 p g m L x W) : P0 w0 p g m L x W.drew := h.below (Below.refl _ _).drew
theorem P0.alloc (h : P0 w0 p g m L x W) (o : Obj) : P0 w0 p g m L x (W.alloc o) := h.below ((Below.refl _ _).alloc (Nat.le_refl _) o)
theorem P0.more (h : P0 w0 p g m L x W) (hm : m ≤ m') : P0 w0 p g m' L x W := ⟨h.ma.more hm, h.ks, h.np, h.ng⟩
theorem P0.arena (h : P0 w0 p g m L x W) (hm : MA W' p g m' x') (ho : Only p g W W') : P0 w0 p g m' L x' W' := by
  obtain ⟨c, f, A, C, R⟩ := h.ma
  exact ⟨hm, ⟨h.ks.k.map fun _ hx => hx.arena A ho, Only.below h.ks.be ho h.ks.be.size h.np h.ng⟩, h.np, h.ng⟩
theorem P0.vars2 (h : P0 w0 p g m [] x W) : P0 w0 p g m (LM p W.heap.size (W.heap.size + 1)) x ((W.alloc (.cells #[.pointer (some ⟨p, 0, none⟩)] 28)).alloc (.cells #[.int .i64 2, .int .i64 0, .int .i64 8] 31)) := by
  have hA := (h.alloc (.cells #[.pointer (some ⟨p, 0, none⟩)] 28)).alloc (.cells #[.int .i64 2, .int .i64 0, .int .i64 8] 31)
  exact ⟨hA.ma, (KS.add (L := []) ⟨trivial, hA.ks.be⟩ ((Blk.new W _ _).alloc _) (by decide) (by decide) (by decide)).add (new_next W _ _ _ _) (by decide) (by decide) (by decide), h.np, h.ng⟩
/-- A plain word is stored. -/
theorem p0_plain (h : P0 w0 p g m L (Sx0 n) W) (hj : j < 4) (h0 : 0 ≤ z) (h1 : z ≤ 65535) (hm : m ≤ 900000) :
    Calls Try.prog 11 #[.pointer (some ⟨p, 0, none⟩), .int .i64 (atK j : Int), .int .u64 (z * 65537)] W fun e w' => e = .returned (.int .i64 0) ∧ P0 w0 p g (m + 1) L (Sx0 (upd n j z)) w' ∧ Only p g W w' := by
  obtain ⟨c, f, A, C, R⟩ := h.ma
  refine (store_yes A (atK_lt hj) (by omega) (by omega) C (by omega)).mono ?_
  rintro e w' ⟨rfl, A', O'⟩
  exact ⟨rfl, h.arena ⟨_, _, A', C.upd 1, rp_plain R hj h0 h1⟩ O', O'⟩
theorem lm_types {p mb lb : Nat} : ∀ z ∈ LM p mb lb, z.2.1 ≠ 76 ∧ z.2.1 ≠ 77 ∧ z.2.1 ≠ 78 := by
  intro z hz
  simp only [List.mem_cons, List.not_mem_nil, or_false] at hz
  rcases hz with rfl | rfl
  · exact ⟨(by decide : (31 : TypeId) ≠ 76), (by decide : (31 : TypeId) ≠ 77), (by decide : (31 : TypeId) ≠ 78)⟩
  · exact ⟨(by decide : (28 : TypeId) ≠ 76), (by decide : (28 : TypeId) ≠ 77), (by decide : (28 : TypeId) ≠ 78)⟩
/-- The statement's other variables are laid. -/
theorem P0.sm (h : P0 w0 p g m L x W) (hs : x.g 0 = 0 ∧ x.g 1 = 0 ∧ x.s 0 = false ∧ x.s 1 = false ∧ x.wr 0 = false ∧ x.wr 1 = false ∧ x.wr 2 = false ∧ x.wr 3 = false) (hL : ∀ z ∈ L, z.2.1 ≠ 76 ∧ z.2.1 ≠ 77 ∧ z.2.1 ≠ 78) :
    SM w0 p g m L W.heap.size (W.heap.size + 1) (W.heap.size + 2) x x (((W.alloc (.cells #[.int .i64 0, .int .i64 0] 76)).alloc (.cells #[.bool false, .bool false] 77)).alloc (.cells #[.bool false, .bool false, .bool false, .bool false] 78)) := by
  obtain ⟨a1, a2, a3, a4, a5, a6, a7, a8⟩ := hs
  have hA := ((h.alloc (.cells #[.int .i64 0, .int .i64 0] 76)).alloc (.cells #[.bool false, .bool false] 77)).alloc (.cells #[.bool false, .bool false, .bool false, .bool false] 78)
  have hz := h.ks.be.size
  refine ⟨hA.ma, hA.ks, ?_, ?_, ?_, hL, h.np, h.ng, hz, by omega, by omega⟩
  · rw [a1, a2]; exact ((Blk.new W _ _).alloc _).alloc _
  · rw [a3, a4]; exact (new_next W _ _ _ _).alloc _
  · rw [a5, a6, a7, a8]
    have := Blk.new ((W.alloc (.cells #[.int .i64 0, .int .i64 0] 76)).alloc (.cells #[.bool false, .bool false] 77)) 78 #[.bool false, .bool false, .bool false, .bool false]
    simpa using this

theorem SetI.drew (h : SetI W cb k l) : SetI W.drew cb k l := h.below (Below.refl _ _).drew
theorem SetI.more (h : SetI W cb k l) {k' : Nat} (hk : k ≤ k') : SetI W cb k' l := by
  obtain ⟨D, h1, h2⟩ := h
  exact ⟨D, h1.mono hk, h2⟩
theorem SetI.store (h : SetI W cb k l) (hk : k ≤ 1000000) (h0 : -9223372036854775808 ≤ z) (h1 : z ≤ 9223372036854775807) :
    ∃ W', (Instr.mapUpdate 80 (.map (some cb)) (.int .i64 z) (.bool true)).run Try.prog W = .ok () W' ∧ SetI W' cb (k + 1) (l ++ [z]) ∧ W.grownBy W' (some cb) := by
  obtain ⟨D, g1, g2⟩ := h
  obtain ⟨W', hrun, hown, hgrow⟩ := g1.update mapLawI Try.underlying80 (by simp only [maxLen]; omega) (key := .int .i64 z) (kl := .int .i64 z) (Go.Maps.keyOf_int_mk (k := 3) (q := .i64) Try.underlying3 (WalkArith.wf_i64 ⟨h0, h1⟩)) (plainElem_bool Try.underlying4 true)
  refine ⟨W', hrun, ⟨_, hown, fun j => ?_⟩, hgrow⟩
  by_cases e : j = z
  · subst e
    rw [Go.Maps.atKey_put_same g1.isMap keyII]
    simp
  · rw [Go.Maps.atKey_put_other (fun h => e (by cases h; rfl)), g2 j]
    have : (j ∈ l ++ [z]) ↔ (j ∈ l) := by
      rw [List.mem_append]
      constructor
      · rintro (h | h)
        · exact h
        · exact absurd (by simpa using h) e
      · exact .inl
    rw [decide_eq_decide.2 this]
theorem Blk.map {i : Nat} {ty : TypeId} {cs : Array Value} (h : Blk W i ty cs) (hs : SetI W cb k l) (hg : W.grownBy W' (some cb)) : Blk W' i ty cs :=
  (hg.block i h.lt (fun e => by injection e with e; subst e; exact hs.ne_blk h rfl)).trans h
theorem Ar.map {c f : Nat → Int} {a b : Nat} (A : Ar W p g a b c f) (hs : SetI W cb k l) (hg : W.grownBy W' (some cb)) : Ar W' p g a b c f := by
  obtain ⟨zs, hz, he⟩ := A.cells
  exact ⟨A.own.map hs hg, ⟨zs, hz.map hs hg, he⟩, A.le, A.few, A.fit⟩
theorem SM.map (h : SM w0 p g m L tb sb wb x y W) (hs : SetI W cb k l) (hg : W.grownBy W' (some cb)) (hc : w0.heap.size ≤ cb) : SM w0 p g m L tb sb wb x y W' := by
  obtain ⟨c, f, A, C, R⟩ := h.ma
  exact ⟨⟨c, f, A.map hs hg, C, R⟩, ⟨h.ks.k.map fun z hz => ⟨hz.b.map hs hg, hz.t1, hz.t2, hz.t3⟩, h.ks.be.grown hg h.ks.be.size (fun i hi => by injection hi with hi; omega)⟩, h.bt.map hs hg, h.bs.map hs hg, h.bw.map hs hg, h.kt, h.np, h.ng, h.nt, h.ns, h.nw⟩
/-- Behind the closure. -/
theorem SM.not_sf (h : SM w0 p g m L tb sb wb x y W) {i : Nat} {ty : TypeId} {cs : Array Value} (hi : Blk W i ty cs) (h1 : ty ≠ 88) (h2 : ty ≠ 37) (h4 : ty ≠ 76) (h5 : ty ≠ 77) (h6 : ty ≠ 78) : ¬ SF p g tb sb wb i := by
  obtain ⟨c, f, A, C, R⟩ := h.ma
  rintro (rfl | rfl | rfl | rfl | rfl)
  · exact hi.ne_p A h1 rfl
  · exact hi.ne_g A h2 rfl
  · exact hi.ne_ h.bt h4 rfl
  · exact hi.ne_ h.bs h5 rfl
  · exact hi.ne_ h.bw h6 rfl
theorem SetI.sf (h : SetI W cb k l) (hS : SM w0 p g m L tb sb wb x y W) (ho : OnlyF (SF p g tb sb wb) W W') : SetI W' cb k l := by
  obtain ⟨c, f, A, C, R⟩ := hS.ma
  obtain ⟨zs, hz, _⟩ := A.cells
  refine h.keep (ho.block cb h.lt ?_)
  rintro (rfl | rfl | rfl | rfl | rfl)
  · exact h.ne_blk A.own rfl
  · exact h.ne_blk hz rfl
  · exact h.ne_blk hS.bt rfl
  · exact h.ne_blk hS.bs rfl
  · exact h.ne_blk hS.bw rfl
theorem Lk.sf {V : Int} {S q kc : Nat} {T a o n' th tg v : Int} (h : Lk W q V S T kc a o n' th tg v) (hS : SM w0 p g m L tb sb wb x y W) (ho : OnlyF (SF p g tb sb wb) W W') : Lk W' q V S T kc a o n' th tg v :=
  Blk.onlyF h ho (hS.not_sf h (by decide) (by decide) (by decide) (by decide) (by decide))
theorem Lk.map {V : Int} {S q kc : Nat} {T a o n' th tg v : Int} (h : Lk W q V S T kc a o n' th tg v) (hs : SetI W cb k l) (hg : W.grownBy W' (some cb)) : Lk W' q V S T kc a o n' th tg v := Blk.map h hs hg
theorem SM.look {V : Int} {S q kc : Nat} {T a o n' th tg v : Int} (h : SM w0 p g m L tb sb wb x y W) (hL : Lk W q V S T kc a o n' th tg v) (hq : w0.heap.size ≤ q) (hm : MA W' p g m' x) (ho : OnlyT q p g none W W') : SM w0 p g m' L tb sb wb x y W' := by
  obtain ⟨c, f, A, C, R⟩ := h.ma
  have key : ∀ {i ty cs}, Blk W i ty cs → ty ≠ 88 → ty ≠ 37 → ty ≠ 100 → Blk W' i ty cs := fun hi h1 h2 h3 => hi.onlyT ho (hi.ne_ hL h3) (hi.ne_p A h1) (hi.ne_g A h2) (by simp)
  exact ⟨hm, ⟨h.ks.k.map fun _ hx => hx.look A hL ho, OnlyT.below h.ks.be ho h.ks.be.size hq h.np h.ng (by simp)⟩, key h.bt (by decide) (by decide) (by decide), key h.bs (by decide) (by decide) (by decide), key h.bw (by decide) (by decide) (by decide), h.kt, h.np, h.ng, h.nt, h.ns, h.nw⟩
theorem SetI.look_ {V : Int} {S q kc : Nat} {T a o n' th tg v : Int} (h : SetI W cb k l) (hL : Lk W q V S T kc a o n' th tg v) (hm : MA W p g m x) (ho : OnlyT q p g none W W') : SetI W' cb k l := by
  obtain ⟨c, f, A, C, R⟩ := hm
  obtain ⟨zs, hz, _⟩ := A.cells
  exact h.keep (ho.block cb h.lt (fun e => h.ne_blk hL e.symm) (fun e => h.ne_blk A.own e.symm) (fun e => h.ne_blk hz e.symm) (by simp))
theorem SetI.arena (h : SetI W cb k l) (hm : MA W p g m x) (ho : Only p g W W') : SetI W' cb k l := by
  obtain ⟨c, f, A, C, R⟩ := hm
  exact h.only A ho
theorem Lk.ma {V : Int} {S q kc : Nat} {T a o n' th tg v : Int} (h : Lk W q V S T kc a o n' th tg v) (hm : MA W p g m x) (ho : Only p g W W') : Lk W' q V S T kc a o n' th tg v := by
  obtain ⟨c, f, A, C, R⟩ := hm
  exact h.arena A ho

/-- A look's first step, at a cell that nobody has written; at one that somebody has. -/
theorem ma_look0 {V : Int} {S q : Nat} {T o n' th tg v : Int} (h : MA W p g m x) (hj : j < 4) (hw : x.wr j = false) (hL : Lk W q V S T (atK j) 0 o n' th tg v) (hm : m ≤ 900000) :
    Calls Try.prog 29 #[.pointer (some ⟨q, 0, none⟩), .pointer (some ⟨p, 0, none⟩)] W fun e w' => e = .returned (.bool true) ∧ MA w' p g (m + 1) x ∧ Lk w' q V S T (atK j) 2 (x.n j) (x.n j) 0 0 (x.n j) ∧ OnlyT q p g none W w' := by
  obtain ⟨c, f, A, C, R⟩ := h
  have hI := (R.isW hj).1
  have e1 : x.O j = x.n j := by unfold Sx.O; rw [hw]; rfl
  have e2 : x.T j = 0 := by unfold Sx.T; rw [hw]; rfl
  have e3 : x.G j = 0 := by unfold Sx.G; rw [hw]; rfl
  rw [e1, e2, e3] at hI
  refine (look_0plain A hL (atK_lt hj) hI C (by omega)).mono ?_
  rintro e w' ⟨rfl, A', L', O'⟩
  exact ⟨rfl, ⟨_, _, A', C.upd 0, R⟩, L', O'⟩
theorem ma_look1 {V : Int} {S q : Nat} {T o n' th tg v : Int} (h : MA W p g m x) (hj : j < 4) (hw : x.wr j = true) (hL : Lk W q V S T (atK j) 0 o n' th tg v) (hm : m ≤ 900000) :
    Calls Try.prog 29 #[.pointer (some ⟨q, 0, none⟩), .pointer (some ⟨p, 0, none⟩)] W fun e w' => e = .returned (.bool false) ∧ MA w' p g (m + 1) x ∧ Lk w' q V S T (atK j) 1 (x.o j) (x.n j) (((j / 2 : Nat) : Int) + 1) (x.g (j / 2) : Int) v ∧ OnlyT q p g none W w' := by
  obtain ⟨c, f, A, C, R⟩ := h
  have hI := (R.isW hj).1
  have e1 : x.O j = x.o j := by unfold Sx.O; rw [hw]; rfl
  have e2 : x.T j = ((j / 2 : Nat) : Int) + 1 := by unfold Sx.T; rw [hw]; rfl
  have e3 : x.G j = (x.g (j / 2) : Int) := by unfold Sx.G; rw [hw]; rfl
  rw [e1, e2, e3] at hI
  refine (look_0word A hL (atK_lt hj) hI (by omega) C (by omega)).mono ?_
  rintro e w' ⟨rfl, A', L', O'⟩
  exact ⟨rfl, ⟨_, _, A', C.upd 0, R⟩, L', O'⟩
/-- Its second step. -/
theorem ma_look2 {S q g0 : Nat} {o n' v : Int} (h : MA W p g m x) (hj : j < 4) (ho0 : 0 ≤ o ∧ o ≤ 65535) (hn0 : 0 ≤ n' ∧ n' ≤ 65535) (hg0 : g0 ≤ 1000000) (hL : Lk W q 2 S 8 (atK j) 1 o n' (((j / 2 : Nat) : Int) + 1) (g0 : Int) v) (hS : S ≤ 48) (hm : m ≤ 900000) :
    Calls Try.prog 29 #[.pointer (some ⟨q, 0, none⟩), .pointer (some ⟨p, 0, none⟩)] W fun e w' => e = .returned (.bool true) ∧ MA w' p g (m + 1) x ∧ Lk w' q 2 S 8 (atK j) 2 o n' (((j / 2 : Nat) : Int) + 1) (g0 : Int) (lookV o n' g0 (j / 2) x) ∧ OnlyT q p g none W w' := by
  obtain ⟨c, f, A, C, R⟩ := h
  have hW : rightW o n' (((j / 2 : Nat) : Int) + 1) (g0 : Int) = true := right_wd ho0.1 ho0.2 hn0.1 hn0.2 (by omega) (by omega) (by omega) (by omega)
  have hv : mnS o n' (((j / 2 : Nat) : Int) + 1) (g0 : Int) (f (j / 2)) = lookV o n' g0 (j / 2) x := by
    rw [R.st (j / 2) (by omega), mnS_state hW (by omega) _ _ (by have := R.tg (j / 2) (by omega); omega)]
    unfold lookV
    simp only [Int.ofNat_lt, Int.ofNat_inj]
  refine (look_1 (t := j / 2) ⟨by decide, by decide, by omega, by omega, by decide, by decide⟩ hW rfl (by omega) A (by omega) hL C (by omega)).mono ?_
  rintro e w' ⟨rfl, A', L', O'⟩
  rw [hv] at L'
  exact ⟨rfl, ⟨_, _, A', C.upd 0, R⟩, L', O'⟩
end
end Go.Proofs.Ytipjbgkfhkidkaa
