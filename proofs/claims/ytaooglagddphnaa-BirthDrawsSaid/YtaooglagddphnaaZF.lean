/- Calls on a forest; a case opened. -/
import Derived.Test.YtaooglagddphnaaZE
import Derived.Test.YtaooglagddphnaaZB
import Derived.Laws.AppendOwnNone
import Derived.Maps.AppendAt
import Derived.BigQuiet
import Derived.Deep.CutRange
import Derived.Test.YtaooglagddphnaaZA

/- The law's own look at memory: Field, Load; contract of parent. -/
namespace Go.Proofs.Ytaooglagddphnaa
open Go.RowKit

set_option maxRecDepth 100000

section
variable {w w' W : World} {V S T : Int} {q p gb cap m pb mb vb cp cm cv n x k : Nat} {g : Mg9} {vr : Value}
theorem lfield (hR : Rt V S T) {kI : Int} (hk : kI = (k : Int)) (h1 : 1 ≤ x) (h2 : x ≤ nN V S) (h3 : k < 7) (w : World) :
    Calls Try.prog 37 #[vL V S T, .int .i64 (x : Int), .int .i64 kI] w fun e w' => e = .returned (.int .i64 (cN V S T x k : Int)) ∧ Below w.heap.size w w' := by
  subst hk
  have hn := nN_le hR
  rw [← field_cN hR h1 h2 h3]
  exact field_yes V S T (x : Int) (k : Int) hR (by omega) (by omega) w
theorem lfield2 (hR : Rt V S T) (h1 : 1 ≤ x) (h2 : x ≤ nN V S) (w : World) :
    Calls Try.prog 37 #[vL V S T, .int .i64 (x : Int), .int .i64 2] w fun e w' => e = .returned (.int .i64 (cN V S T x 2 : Int)) ∧ Below w.heap.size w w' := lfield hR kI2 h1 h2 (by omega) w
theorem lfield3 (hR : Rt V S T) (h1 : 1 ≤ x) (h2 : x ≤ nN V S) (w : World) :
    Calls Try.prog 37 #[vL V S T, .int .i64 (x : Int), .int .i64 3] w fun e w' => e = .returned (.int .i64 (cN V S T x 3 : Int)) ∧ Below w.heap.size w w' := lfield hR kI3 h1 h2 (by omega) w
theorem lfield4 (hR : Rt V S T) (h1 : 1 ≤ x) (h2 : x ≤ nN V S) (w : World) :
    Calls Try.prog 37 #[vL V S T, .int .i64 (x : Int), .int .i64 4] w fun e w' => e = .returned (.int .i64 (cN V S T x 4 : Int)) ∧ Below w.heap.size w w' := lfield hR kI4 h1 h2 (by omega) w
theorem lfield5 (hR : Rt V S T) (h1 : 1 ≤ x) (h2 : x ≤ nN V S) (w : World) :
    Calls Try.prog 37 #[vL V S T, .int .i64 (x : Int), .int .i64 5] w fun e w' => e = .returned (.int .i64 (cN V S T x 5 : Int)) ∧ Below w.heap.size w w' := lfield hR kI5 h1 h2 (by omega) w
theorem lfield6 (hR : Rt V S T) (h1 : 1 ≤ x) (h2 : x ≤ nN V S) (w : World) :
    Calls Try.prog 37 #[vL V S T, .int .i64 (x : Int), .int .i64 6] w fun e w' => e = .returned (.int .i64 (cN V S T x 6 : Int)) ∧ Below w.heap.size w w' := lfield hR kI6 h1 h2 (by omega) w

/-- A cell of a node, loaded by the law. -/
theorem lload (A : TM w V S T p gb cap m g) (h1 : 1 ≤ x) (h2 : x ≤ nN V S) (h3 : 3 ≤ k ∧ k ≤ 6) (hm : m ≤ 100000000) :
    Calls Try.prog 27 #[.pointer (some ⟨p, 0, none⟩), .int .i64 (cN V S T x k : Int)] w (Did V S T p gb cap (m + 1) g (.tuple #[.int .u64 (g x k : Int), .int .i64 0]) w) := by
  obtain ⟨c, f, Aa, C, r⟩ := A.ar
  refine (load_yes Aa (cN_lt A.hR h1 h2 (by omega)) C hm).mono ?_
  rintro e w' ⟨rfl, A1, O1⟩
  rw [r.c x k h1 h2 h3.1 h3.2]
  exact ⟨rfl, ⟨A.hR, _, _, A1, C.upd 0, r⟩, O1⟩
/-- .. its parent's cell. -/
theorem lload2 (A : TM w V S T p gb cap m g) (h1 : 1 ≤ x) (h2 : x ≤ nN V S) (hm : m ≤ 100000000) :
    Calls Try.prog 27 #[.pointer (some ⟨p, 0, none⟩), .int .i64 (cN V S T x 2 : Int)] w fun e w' => ∃ v : Int, (0 ≤ v ∧ v ≤ 18446744073709551615 ∧ (isP V x = false → v = (g x 2 : Int)) ∧ (isP V x = true → v % 65536 = (g x 2 : Int))) ∧ Did V S T p gb cap (m + 1) g (.tuple #[.int .u64 v, .int .i64 0]) w e w' := by
  obtain ⟨c, f, Aa, C, r⟩ := A.ar
  have hl := cN_lt A.hR h1 h2 (k := 2) (by omega)
  refine (load_yes Aa hl C hm).mono ?_
  rintro e w' ⟨rfl, A1, O1⟩
  have hf := Aa.fit _ hl
  refine ⟨_, ⟨hf.1, by omega, r.a x h1 h2, fun hp => ?_⟩, rfl, ⟨A.hR, _, _, A1, C.upd 0, r⟩, O1⟩
  have := r.p x h1 h2 hp
  rw [← this.2]; unfold rN; rw [if_pos this.1]

theorem rw_field1 (o n th tg : Int) (W : World) : (Instr.field 189 (.agg #[.int .i64 o, .int .i64 n, .int .i64 th, .int .i64 tg]) 1).run Try.prog W = .ok (.int .i64 n) W := by kernel_rfl
end

end Go.Proofs.Ytaooglagddphnaa

/- Contract of the law's is. Printed by wip/tools/trqb.py. -/
namespace Go.Proofs.Ytaooglagddphnaa
open Go.RowKit

set_option maxRecDepth 100000

section
variable {w w' W w0 : World} {V S T : Int} {q p gb cap m pb mb vb cp cm cv n x k nb a b c d e f h : Nat} {g : Mg9} {vr : Value}
theorem OB.onlyT {ob : Nat} {rc : Rec7} (H : OB w ob n rc) (A : TM w V S T p gb cap m g) (ho : Only p gb w w') : OB w' ob n rc := by
  obtain ⟨zs, hz, e1, e2⟩ := H
  exact ⟨zs, hz.treap A ho (by decide) (by decide), e1, e2⟩
theorem lload3_ (A : TM w V S T p gb cap m g) (h1 : 1 ≤ x) (h2 : x ≤ nN V S) (hm : m ≤ 100000000) :
    Calls Try.prog 27 #[.pointer (some ⟨p, 0, none⟩), .int .i64 (cN V S T x 3 : Int)] w (Did V S T p gb cap (m + 1) g (.tuple #[.int .u64 (g x 3 : Int), .int .i64 0]) w) := lload A h1 h2 ⟨by omega, by omega⟩ hm
theorem lload4_ (A : TM w V S T p gb cap m g) (h1 : 1 ≤ x) (h2 : x ≤ nN V S) (hm : m ≤ 100000000) :
    Calls Try.prog 27 #[.pointer (some ⟨p, 0, none⟩), .int .i64 (cN V S T x 4 : Int)] w (Did V S T p gb cap (m + 1) g (.tuple #[.int .u64 (g x 4 : Int), .int .i64 0]) w) := lload A h1 h2 ⟨by omega, by omega⟩ hm
theorem lload6_ (A : TM w V S T p gb cap m g) (h1 : 1 ≤ x) (h2 : x ≤ nN V S) (hm : m ≤ 100000000) :
    Calls Try.prog 27 #[.pointer (some ⟨p, 0, none⟩), .int .i64 (cN V S T x 6 : Int)] w (Did V S T p gb cap (m + 1) g (.tuple #[.int .u64 (g x 6 : Int), .int .i64 0]) w) := lload A h1 h2 ⟨by omega, by omega⟩ hm

end

end Go.Proofs.Ytaooglagddphnaa

/- What calls leave right, plainly: rows that are swapped for others, marks, chains of parents. -/
namespace Go.Proofs.Ytaooglagddphnaa

section
variable {α : Type}
theorem wo_out {i k : Nat} : ∀ {j : Nat} (l : List α), i < j → k < j → wo i k j l = l
  | _, [], _, _ => rfl
  | j, x :: l, h1, h2 => by
    simp only [wo]
    rw [if_pos ⟨by omega, by omega⟩, wo_out l (by omega) (by omega)]
theorem wo_left {i k : Nat} : ∀ {j : Nat} (l : List α), i < j → wo i k j l = wo k k j l
  | _, [], _ => rfl
  | j, x :: l, h1 => by
    simp only [wo]
    rw [wo_left l (by omega : i < j + 1)]
    by_cases h : j = k
    · rw [if_neg (by omega), if_neg (by omega)]
    · rw [if_pos ⟨by omega, h⟩, if_pos ⟨h, h⟩]
theorem wo_comm {i k : Nat} : ∀ {j : Nat} (l : List α), wo i k j l = wo k i j l
  | _, [] => rfl
  | j, x :: l => by
    simp only [wo]
    rw [wo_comm l]
    by_cases h : j ≠ i ∧ j ≠ k
    · rw [if_pos h, if_pos ⟨h.2, h.1⟩]
    · rw [if_neg h, if_neg fun e => h ⟨e.2, e.1⟩]
theorem wo_perm1 {i : Nat} {x : α} : ∀ {j : Nat} {l : List α}, j ≤ i → l[i - j]? = some x → l.Perm (x :: wo i i j l)
  | j, [], _, h => by simp at h
  | j, y :: l, h1, h => by
    by_cases e : i = j
    · subst e
      rw [Nat.sub_self] at h
      simp at h
      subst h
      simp only [wo]
      rw [if_neg (by omega), wo_out l (by omega) (by omega)]
    · rw [show i - j = (i - (j + 1)) + 1 by omega] at h
      have ih := wo_perm1 (i := i) (x := x) (j := j + 1) (l := l) (by omega) (by simpa using h)
      simp only [wo]
      rw [if_pos ⟨by omega, by omega⟩]
      exact (ih.cons y).trans (List.Perm.swap x y _)
theorem wo_perm2 {i k : Nat} (hik : i ≠ k) {x y : α} : ∀ {j : Nat} {l : List α}, j ≤ i → j ≤ k → l[i - j]? = some x → l[k - j]? = some y → l.Perm (x :: y :: wo i k j l)
  | j, [], _, _, h, _ => by simp at h
  | j, z :: l, h1, h2, h, h' => by
    by_cases e : i = j
    · subst e
      rw [Nat.sub_self] at h
      simp at h
      subst h
      rw [show k - i = (k - (i + 1)) + 1 by omega] at h'
      have := wo_perm1 (i := k) (x := y) (j := i + 1) (l := l) (by omega) (by simpa using h')
      simp only [wo]
      rw [if_neg (by omega), wo_left l (by omega)]
      exact this.cons z
    · by_cases e' : k = j
      · subst e'
        rw [Nat.sub_self] at h'
        simp at h'
        subst h'
        rw [show i - k = (i - (k + 1)) + 1 by omega] at h
        have := wo_perm1 (i := i) (x := x) (j := k + 1) (l := l) (by omega) (by simpa using h)
        simp only [wo]
        rw [if_neg (by omega), wo_comm, wo_left l (by omega)]
        exact (this.cons z).trans (List.Perm.swap x z _)
      · rw [show i - j = (i - (j + 1)) + 1 by omega] at h
        rw [show k - j = (k - (j + 1)) + 1 by omega] at h'
        have ih := wo_perm2 hik (x := x) (y := y) (j := j + 1) (l := l) (by omega) (by omega) (by simpa using h) (by simpa using h')
        simp only [wo]
        rw [if_pos ⟨by omega, by omega⟩]
        exact ((ih.cons z).trans (List.Perm.swap x z _)).trans ((List.Perm.swap y z _).cons x)
end

section
variable {V S : Int} {g g' : Mg9} {mk mk' : Nat → Nat} {ts ts' : List Tp}
theorem flat_perm {l l' : List Tp} (h : l.Perm l') : (l.flatMap Tp.row).Perm (l'.flatMap Tp.row) := List.Perm.flatMap_right _ h
theorem FI.mem (h : FI V S g mk ts) (x : Nat) : (x ≠ 0 ∧ x ≤ nN V S) ↔ x ∈ ts.flatMap Tp.row := (h.al x).trans List.mem_flatMap.symm
theorem FI.perm (h : FI V S g mk ts) (hp : ts.Perm ts') : FI V S g mk ts' :=
  ⟨h.hm, fun t ht => h.st t (hp.mem_iff.2 ht), (flat_perm hp).nodup_iff.1 h.nd, fun x => (h.mem x).trans ((flat_perm hp).mem_iff.trans List.mem_flatMap)⟩
theorem Hp.same {g g' : Mg9} {t : Tp} (h : Hp (fun z => g z 5) t) (h5 : ∀ y, g' y 5 = g y 5) : Hp (fun z => g' z 5) t := by
  have : (fun z => g' z 5) = fun z => g z 5 := funext h5
  rw [this]; exact h
theorem Stands.turn {vx : Nat → Bool} {t : Tp} (h : Stands vx mk g t) (hn : t.row.Nodup) (h1 : ∀ x ∈ t.row, ∀ k, g' x k = g x k) (h2 : ∀ x ∈ t.row, mk' x = mk x) : Stands vx mk' g' t :=
  ⟨h.1.congr (fun x hx => ⟨h2 x hx, h1 x hx 3, h1 x hx 4, h1 x hx 6⟩) hn fun x hx _ => h1 x hx 2, fun h0 => (h1 _ (Tp.root_mem h0) 2).trans (h.2 h0)⟩
/-- Some rows are swapped for others. -/
theorem FI.swap {L N R : List Tp} (h : FI V S g mk ts) (hp : ts.Perm (L ++ R)) (hN : (N.flatMap Tp.row).Perm (L.flatMap Tp.row)) (hs : ∀ t ∈ N, Stands (vxN V) mk' g' t ∧ Hp (fun z => g z 5) t ∧ t ≠ .nil)
    (ho : ∀ y, y ∉ L.flatMap Tp.row → ∀ k, g' y k = g y k) (h5 : ∀ y, g' y 5 = g y 5) (hm : ∀ x, mk' x < 4) (hmk : ∀ y, y ∉ L.flatMap Tp.row → mk' y = mk y) : FI V S g' mk' (R ++ N) := by
  have h' := h.perm hp
  have hd := h'.nd
  rw [List.flatMap_append, List.nodup_append] at hd
  have hq : ((R ++ N).flatMap Tp.row).Perm ((L ++ R).flatMap Tp.row) := by
    rw [List.flatMap_append, List.flatMap_append]
    exact (List.Perm.append_left _ hN).trans List.perm_append_comm
  refine ⟨hm, fun t ht => ?_, hq.nodup_iff.2 h'.nd, fun x => (h'.mem x).trans (hq.mem_iff.symm.trans List.mem_flatMap)⟩
  rcases List.mem_append.1 ht with ht | ht
  · have h1 := h'.st t (List.mem_append_right _ ht)
    have hx : ∀ x ∈ t.row, x ∉ L.flatMap Tp.row := fun x hx hL => hd.2.2 x hL x (List.mem_flatMap.2 ⟨t, ht, hx⟩) rfl
    exact ⟨h1.1.turn (h'.one (List.mem_append_right _ ht)) (fun x hx' => ho x (hx x hx')) fun x hx' => hmk x (hx x hx'), h1.2.1.same h5, h1.2.2⟩
  · exact ⟨(hs t ht).1, (hs t ht).2.1.same h5, (hs t ht).2.2⟩
end

/-- What is right along a way up. -/
def UpOk (vx : Nat → Bool) (mk : Nat → Nat) (g : Mg9) : List Fr → Tp → Prop
  | [], _ => True
  | f :: us, t => FrOk vx mk g f ∧ (t.root ≠ 0 → g t.root 2 = f.x) ∧ g f.x (if f.rt then 4 else 3) = t.root ∧ UpOk vx mk g us (f.join t)
section
variable {vx : Nat → Bool} {mk mk' : Nat → Nat} {g g' : Mg9}
theorem climb_up (hm : ∀ x, mk x < 4) : ∀ {us : List Fr} {t : Tp}, Loose vx mk g (climb us t) → (climb us t).size < 65536 → (∀ x ∈ (climb us t).row, x ≠ 0) → UpOk vx mk g us t ∧ Loose vx mk g t
  | [], t, h, _, _ => ⟨trivial, h⟩
  | f :: us, t, h, hz, hp => by
    have ih := climb_up hm (us := us) (t := f.join t) h hz hp
    have h1 := climb_size us (f.join t)
    have h2 := Loose.frame hm ih.2 (by simp only [climb] at hz; omega) (hp f.x (climb_fr (List.mem_cons_self ..)))
    exact ⟨⟨h2.1, h2.2.2.2, h2.2.2.1, ih.1⟩, h2.2.1⟩
theorem UpOk.turn {x0 : Nat} : ∀ {us : List Fr} {t : Tp}, UpOk vx mk g us t → x0 ∈ t.row → (climb us t).row.Nodup → (∀ y, y ≠ x0 → mk' y = mk y) → (∀ y k, (y ≠ x0 ∨ k ≠ 6) → g' y k = g y k) → UpOk vx mk' g' us t
  | [], _, _, _, _, _, _ => trivial
  | f :: us, t, h, hx, hn, h1, h2 => by
    obtain ⟨a, b, c, d⟩ := h
    obtain ⟨no, nt, xo, xt, dj⟩ := Fr.join_nodup (climb_nodup (us := us) (t := f.join t) hn)
    have fx : f.x ≠ x0 := fun e => xt (e ▸ hx)
    have ox : ∀ y ∈ f.o.row, y ≠ x0 := fun y hy e => dj x0 hx (e ▸ hy)
    refine ⟨⟨a.nz, ?_, fun h0 => ?_, ?_, ?_⟩, fun h0 => ?_, ?_, UpOk.turn d (Fr.join_mem.2 (.inr (.inr hx))) hn h1 h2⟩
    · rw [h2 _ _ (.inl fx)]; exact a.side
    · rw [h2 _ _ (.inl (ox _ (Tp.root_mem h0)))]; exact a.par h0
    · rw [h2 _ _ (.inl fx), h1 _ fx]; exact a.own
    · exact a.o.congr (fun y hy => ⟨h1 y (ox y hy), h2 _ _ (.inl (ox y hy)), h2 _ _ (.inl (ox y hy)), h2 _ _ (.inl (ox y hy))⟩) no fun y hy _ => h2 _ _ (.inl (ox y hy))
    · rw [h2 _ _ (.inr (by decide))]; exact b h0
    · rw [h2 _ _ (.inl fx)]; exact c
/-- All sums are reckoned anew on a way up. -/
theorem recks_up (hm : ∀ x, mk x < 4) : ∀ {us : List Fr} {t : Tp} {g : Mg9}, UpOk vx mk g us t → Loose vx mk g t → t.root ≠ 0 → (∀ k, g 0 k = 0) → (climb us t).row.Nodup → (climb us t).size < 65536 → Loose vx mk (recks vx g (us.map Fr.x)) (climb us t)
  | [], _, _, _, h, _, _, _, _ => h
  | f :: us, t, g, h, hl, hr, h0, hn, hz => by
    obtain ⟨a, b, c, d⟩ := h
    have hn' := climb_nodup (us := us) (t := f.join t) hn
    have hz' : (f.join t).size < 65536 := by have := climb_size us (f.join t); simp only [climb] at hz; omega
    have ow := a.own
    have hL : Loose vx mk (reckG vx g f.x (oS (g f.x 6))) (f.join t) := by
      rw [ow]
      have sd := a.side
      have pa := a.par
      have lo := a.o
      revert hn' hz' sd c pa lo
      unfold Fr.join
      cases f.rt with
      | true => intro c hn' hz' sd pa lo; exact reck_loose hm h0 hn' hz' sd c pa b lo hl
      | false => intro c hn' hz' sd pa lo; exact reck_loose hm h0 hn' hz' c sd b pa hl lo
    exact recks_up hm (us := us) (t := f.join t) (d.turn (x0 := f.x) (Fr.join_mem.2 (.inl rfl)) hn (fun _ _ => rfl) fun y k hy => by
      rcases hy with hy | hy
      · exact reckG_other _ _ _ _ hy
      · exact reckG_field _ _ _ _ _ hy) hL (by rw [Fr.join_root]; exact a.nz) (fun k => by rw [reckG_other _ _ _ _ (Ne.symm a.nz)]; exact h0 k) hn hz
theorem recks_other : ∀ {l : List Nat} {g : Mg9} {y k : Nat}, (y ∉ l ∨ k ≠ 6) → recks vx g l y k = g y k
  | [], _, _, _, _ => rfl
  | x :: l, g, y, k, h => by
    show recks vx (reckG vx g x (oS (g x 6))) l y k = g y k
    rw [recks_other (by rcases h with h | h; exact .inl fun e => h (List.mem_cons_of_mem _ e); exact .inr h)]
    rcases h with h | h
    · exact reckG_other _ _ _ _ fun e => h (by simp [e])
    · exact reckG_field _ _ _ _ _ h
/-- The chain of parents. -/
theorem up_chn {n : Nat} : ∀ {us : List Fr} {t : Tp}, UpOk vx mk g us t → t.root ≠ 0 → (∀ f ∈ us, f.x ≤ n) → g (topOf us t.root) 2 = 0 → Chn g n (g t.root 2) (us.map Fr.x)
  | [], _, _, _, _, h => h
  | f :: us, t, h, hr, hn, h0 => by
    obtain ⟨a, b, c, d⟩ := h
    have ih := up_chn (n := n) d (by rw [Fr.join_root]; exact a.nz) (fun f' hf => hn f' (List.mem_cons_of_mem _ hf)) (by rw [Fr.join_root]; exact h0)
    rw [Fr.join_root] at ih
    rw [b hr]
    exact ⟨rfl, a.nz, hn f (List.mem_cons_self ..), ih⟩
theorem top_last : ∀ (us : List Fr) (x z : Nat), ((z :: x :: us.map Fr.x)[(us.map Fr.x).length + 1]?).getD 0 = topOf us x
  | [], _, _ => rfl
  | f :: us, x, z => by
    have := top_last us f.x x
    simpa [topOf] using this
/-- The place in the row. -/
theorem up_idx (hm : ∀ x, mk x < 4) (h0 : ∀ k, g 0 k = 0) : ∀ {us : List Fr} {t : Tp} {i : Nat}, UpOk vx mk g us t → t.root ≠ 0 → (climb us t).row.Nodup → (climb us t).size < 65536 → (∀ y ∈ (climb us t).row, y ≠ 0) → idxG g i t.root (us.map Fr.x) = i + ahead us
  | [], _, _, _, _, _, _, _ => rfl
  | f :: us, t, i, h, hr, hn, hz, hp => by
    obtain ⟨a, b, c, d⟩ := h
    obtain ⟨no, nt, xo, xt, dj⟩ := Fr.join_nodup (climb_nodup (us := us) (t := f.join t) hn)
    have hz' : (f.join t).size < 65536 := by have := climb_size us (f.join t); simp only [climb] at hz; omega
    rw [Fr.join_size] at hz'
    have ih := fun i => up_idx hm h0 (i := i) d (by rw [Fr.join_root]; exact a.nz) hn hz hp
    rw [Fr.join_root] at ih
    show idxG g (if g f.x 4 = t.root then i + (nS (g (g f.x 3) 6) + 1) else i) f.x (us.map Fr.x) = i + ahead (f :: us)
    rw [ih]
    simp only [ahead]
    have sd := a.side
    cases hf : f.rt with
    | true =>
      rw [hf] at c sd
      simp only [if_true] at c sd ⊢
      rw [if_pos c, sd, a.o.sum h0, (sumT_parts hm f.o (by omega)).1]; omega
    | false =>
      rw [hf] at c sd
      simp only [Bool.false_eq_true, if_false] at c sd ⊢
      rw [if_neg]
      · omega
      · rw [sd]
        intro e
        exact dj _ (Tp.root_mem hr) (by rw [← e]; exact Tp.root_mem (by rw [e]; exact hr))
end

end Go.Proofs.Ytaooglagddphnaa

/- Calls on a play: Root of the reference, Merge, Split, Mark; rows of numbers of one's own. -/
namespace Go.Proofs.Ytaooglagddphnaa
open Go.RowKit

set_option maxRecDepth 100000

/-- Numbers in a slice of one's own. -/
def RI (w : World) (base : Nat) (v : Value) (l : List Nat) : Prop := w.ownsRow base 3 1 v l.length (l.map fun s : Nat => Value.int .i64 (s : Int))
section
variable {w w' W : World} {base : Nat} {v u : Value} {l l2 : List Nat}
theorem RI.li (h : RI w base v l) : LI w v l := (LI.of_owns h).1
theorem RI.bk (h : RI w base v l) : ∀ b, bk v = some b → base ≤ b := (LI.of_owns h).2
theorem RI.nil (w : World) (base : Nat) : RI w base (.slice none 0 0) [] := World.ownsRow_nil _ _ _ _
theorem RI.empty (w : World) : RI (w.alloc (.cells #[] 3)) w.heap.size (.slice (some ⟨w.heap.size, 0, none⟩) 0 0) [] :=
  ⟨rfl, .inr ⟨_, 0, #[], rfl, Nat.le_refl _, Blk.new w _ _, Nat.le_refl _, by simp [maxLen], rfl, rfl⟩⟩
theorem RI.lt (h : RI w base v l) : ∀ k, v.ownBlock = some k → base ≤ k ∧ k < w.heap.size := World.ownsRow.lt h
/-- append of a slice onto one's own. -/
theorem wpList_append_ri (w : World) {ops : Array Oper} {rest : List Oper} {o : Oper} {a : Act} {Q : Exit → Act → World → Prop} (hgd : o.guard = none) (s x : Operand)
    (ho : o.op = .call { callee := .builtin .append, args := #[s, x], argTypes := #[60, 60] })
    {base : Nat} {v u : Value} {l l2 : List Nat} (hs : a.eval s = v) (h : RI w base v l) (hx : a.eval x = u) (hu : LI w u l2) (hl : l.length + l2.length ≤ 100000) (hb : base ≤ w.heap.size)
    (hK : ∀ v' w', RI w' base v' (l ++ l2) → w.grownBy w' v.ownBlock → wpList Try.prog ops Q rest (a.put o.dst v') w') : wpList Try.prog ops Q (o :: rest) a w := by
  obtain ⟨i0, hi0, hz0, hz1, hz2⟩ := info_parts info_i
  obtain ⟨ao, cap, rfl, h1, h2, h3, h4⟩ := hu
  have hone : ∀ u ∈ (l2.map fun s : Nat => Value.int .i64 (s : Int)), u.oneCell' = true := by
    intro u hu
    obtain ⟨y, _, rfl⟩ := List.mem_map.1 hu
    rfl
  have fin : ∀ v' w', w'.ownsRow base 3 1 v' (l.length + l2.length) ((l.map fun s : Nat => Value.int .i64 (s : Int)) ++ (l2.map fun s : Nat => Value.int .i64 (s : Int))) → w.grownBy w' v.ownBlock → wpList Try.prog ops Q rest (a.put o.dst v') w' := by
    intro v' w' h1 h2
    refine hK v' w' ?_ h2
    unfold RI
    rw [List.length_append, List.map_append]; exact h1
  cases ao with
  | none =>
    have hc0 := h3 rfl
    have hl0 : l2 = [] := List.eq_nil_of_length_eq_zero (by omega)
    subst hl0 hc0
    exact wpList_append_own_none hgd s x 60 ho base 3 i0 1 Try.underlying60 hi0 v l.length _ hs h hx (fin v w (by unfold RI at h; simpa using h) ⟨rfl, rfl, rfl, Nat.le_refl _, fun _ _ _ => rfl⟩)
  | some ad =>
    refine wpList_append_own_at w hgd s x 60 ho base 3 i0 _ 1 8 Try.underlying60 hi0 hz0 hz1 hz2 rfl (by omega) v l.length _ hs h ad l2.length cap (l2.map fun s : Nat => Value.int .i64 (s : Int)) hx (by simp) ?_ hone (by simp only [maxLen]; omega) (by omega) hb (fun v' w' a1 a2 _ _ => fin v' w' a1 a2)
    intro j u hj
    obtain ⟨y, hy, rfl⟩ : ∃ y, l2[j]? = some y ∧ u = .int .i64 (y : Int) := by
      simp only [List.getElem?_map, Option.map_eq_some_iff] at hj
      obtain ⟨y, hy, e⟩ := hj
      exact ⟨y, hy, e.symm⟩
    have hj' := (List.getElem?_eq_some_iff.1 hy).1
    obtain ⟨b, off, zs, e, hz, hs2, hx2⟩ := h4 (by omega)
    injection e with e
    rw [e, Addr.add_lit, hz.cell]
    exact hx2 j y hy
end

/-- All blocks of a play are the law's own. -/
structure KOk (K : PK9) : Prop where
  q : K.base ≤ K.q
  p : K.base ≤ K.p
  g : K.base ≤ K.gb
  m : K.base ≤ K.mb

section
variable {w w' W : World} {V S T : Int} {q p gb cap pb mb vb cp cm cv base m m' i k : Nat} {g : Mg9} {mk : Nat → Nat} {ts : List Tp} {vr v : Value} {vs : List Value} {t ta tb : Tp}
theorem FI.at (hF : FI V S g mk ts) {t : Tp} (ht : ts[i]? = some t) : Stands (vxN V) mk g t ∧ Hp (fun z => g z 5) t ∧ t ≠ .nil ∧ t.row.Nodup ∧ (∀ y ∈ t.row, y ≠ 0 ∧ y ≤ nN V S) ∧ t.size ≤ nN V S := by
  have hm := List.mem_of_getElem? ht
  obtain ⟨a, b, c⟩ := hF.st t hm
  exact ⟨a, b, c, hF.one hm, hF.nodes hm, hF.size hm⟩
theorem FI.pair (_hF : FI V S g mk ts) (hik : i ≠ k) (ha : ts[i]? = some ta) (hb : ts[k]? = some tb) : ts.Perm ([ta, tb] ++ wo i k 0 ts) := wo_perm2 hik (Nat.zero_le _) (Nat.zero_le _) ha hb
theorem flat_two : [ta, tb].flatMap Tp.row = ta.row ++ tb.row := by simp
theorem flat_one : [ta].flatMap Tp.row = ta.row := by simp

/-- What isn't empty of two trees. -/
def some2 (a b : Tp) : List Tp := (if 0 < a.row.length then [a] else []) ++ (if 0 < b.row.length then [b] else [])
theorem some2_row (a b : Tp) : (some2 a b).flatMap Tp.row = a.row ++ b.row := by
  unfold some2
  rw [List.flatMap_append]
  congr 1
  · split
    · simp
    · rw [List.eq_nil_of_length_eq_zero (by omega : a.row.length = 0)]; rfl
  · split
    · simp
    · rw [List.eq_nil_of_length_eq_zero (by omega : b.row.length = 0)]; rfl
/-- All that is right of a node's way up. -/
theorem FI.node (hF : FI V S g mk ts) (hn : nN V S ≤ 560) (h0 : ∀ k, g 0 k = 0) {x : Nat} (h1 : x ≠ 0) (h2 : x ≤ nN V S) :
    ∃ (i : Nat) (t : Tp) (us : List Fr) (l r : Tp), ts[i]? = some t ∧ t = climb us (.node l x r) ∧ UpOk (vxN V) mk g us (.node l x r) ∧ Loose (vxN V) mk g (.node l x r) ∧ (∀ f ∈ us, 1 ≤ f.x ∧ f.x ≤ nN V S) ∧ us.length + 1 ≤ nN V S ∧ t.root = topOf us x ∧ g t.root 2 = 0 := by
  obtain ⟨t, ht, hx⟩ := (hF.al x).1 ⟨h1, h2⟩
  obtain ⟨i, hi⟩ := List.mem_iff_getElem?.1 ht
  obtain ⟨a1, a2, a3, a4, a5, a6⟩ := hF.at hi
  obtain ⟨us, l, r, e⟩ := climb_to hx
  have hz : (climb us (.node l x r)).size < 65536 := by rw [← e]; omega
  have hp : ∀ y ∈ (climb us (.node l x r)).row, y ≠ 0 := by rw [← e]; exact fun y hy => (a5 y hy).1
  have hc := climb_up hF.hm (us := us) (t := .node l x r) (by rw [← e]; exact a1.1) hz hp
  have hs := climb_size us (.node l x r)
  rw [← e, Tp.size_node] at hs
  have hr : t.root = topOf us x := by rw [e, climb_root]; rfl
  refine ⟨i, t, us, l, r, hi, e, hc.1, hc.2, fun f hf => ?_, by omega, hr, ?_⟩
  · have := a5 f.x (by rw [e]; exact climb_fr hf); omega
  · by_cases h : t.root = 0
    · rw [h]; exact h0 2
    · exact a1.2 h
/-- Mark, on a play. -/
def mkSet (mk : Nat → Nat) (x k : Nat) (on : Bool) : Nat → Nat := fun y => if y = x then setB (mk x) k on else mk y
theorem mkSet_lt (hm : ∀ x, mk x < 4) {x k : Nat} {on : Bool} (hk : k < 2) : ∀ y, mkSet mk x k on y < 4 := fun y => by
  unfold mkSet; split
  · exact setB_lt (hm x) hk
  · exact hm y
end

end Go.Proofs.Ytaooglagddphnaa

/- The law's step: what stands beside a play; the calls of row. Printed by wip/tools/trqe.py. -/
namespace Go.Proofs.Ytaooglagddphnaa
open Go.RowKit

set_option maxRecDepth 100000

/-- append of a row, and where it lies then. -/
theorem wpList_append_row2 (w : World) {ops : Array Oper} {rest : List Oper} {o : Oper} {a : Act} {Q : Exit → Act → World → Prop} (hgd : o.guard = none) (s x : Operand)
    (ho : o.op = .call { callee := .builtin .append, args := #[s, x], argTypes := #[130, 130] })
    {v : Value} {xs : List Value} {base : Nat} (hs : a.eval s = v) (h : RowV w base v xs) (u : Value) (hu : u.oneCell' = true) (ad : Addr) (c : Nat) (hx : a.eval x = .slice (some ad) 1 c) (hc0 : w.cell? (ad.add 0) = some u) (hl : xs.length ≤ 100000) (hb : base ≤ w.heap.size)
    (hK : ∀ v' w', RowV w' base v' (xs ++ [u]) → w.grownBy w' v.ownBlock → (v'.ownBlock = v.ownBlock ∨ v'.ownBlock = some w.heap.size) → wpList Try.prog ops Q rest (a.put o.dst v') w') : wpList Try.prog ops Q (o :: rest) a w := by
  obtain ⟨i0, hi0, hz0, hz1, hz2⟩ := info_parts info_li
  refine wpList_append_own_at w hgd s x 130 ho base 60 i0 _ 1 24 Try.underlying130 hi0 hz0 hz1 hz2 rfl (by omega) v xs.length xs hs h ad 1 c [u] hx rfl ?_ ?_ (by simp only [maxLen]; omega) (by omega) hb ?_
  · intro j u' hj
    match j, hj with
    | 0, hj => simp at hj; subst hj; exact hc0
    | j + 1, hj => simp at hj
  · intro u' hu'; simp at hu'; subst hu'; exact hu
  · intro v' w' h1 h2 _ h4
    refine hK v' w' ?_ h2 h4
    unfold RowV
    rw [List.length_append, List.length_singleton]
    exact h1
theorem bk_cut {b off off2 n n2 c c2 x : Nat} (h : bk (.slice (some ⟨b, off, none⟩) n c) ≠ some x) (hc : c2 ≤ c) : bk (.slice (some ⟨b, off2, none⟩) n2 c2) ≠ some x := by
  cases c2 with
  | zero => rw [bk_zero]; simp
  | succ c2 =>
    cases c with
    | zero => omega
    | succ c => exact h
/-- What of two trees has been told. -/
def partsT (ta tb : Tp) : Nat → List Tp
  | 0 => []
  | 1 => if 0 < ta.row.length then [ta] else []
  | _ => some2 ta tb
theorem partsT_one (ta tb : Tp) : partsT ta tb (0 + 1) = partsT ta tb 0 ++ if 0 < ta.row.length then [ta] else [] := by simp [partsT]
theorem partsT_two (ta tb : Tp) : partsT ta tb (1 + 1) = partsT ta tb 1 ++ if 0 < tb.row.length then [tb] else [] := rfl
section
variable {w w' W W' w0 : World} {V S T : Int} {q p gb cap pb mb vb cp cm cv base m m' ob n : Nat} {g g' : Mg9} {mk : Nat → Nat} {ts : List Tp} {vr v : Value} {vs : List Value} {K : PK9} {kd a b k : Int} {on : Bool}
theorem rowF_cases (x : Int) (n : Nat) : rowF x n = -1 ∨ ∃ i : Nat, rowF x n = (i : Int) ∧ i < n := by
  unfold rowF
  split
  · exact .inl rfl
  · rename_i h
    have h1 := Int.emod_nonneg x (show (n : Int) ≠ 0 by omega)
    have h2 := Int.emod_lt_of_pos x (show (0 : Int) < n by omega)
    exact .inr ⟨(x % (n : Int)).toNat, by omega, by omega⟩
/-- A row's slice, in its place. -/
theorem RowV.at {base : Nat} (h : RowV W base vr vs) {i : Nat} (hv : vs[i]? = some v) : ∃ rg c, vr = .slice (some ⟨rg, 0, none⟩) vs.length c ∧ base ≤ rg ∧ rg < W.heap.size ∧ ∃ cs, Blk W rg 60 cs ∧ ∀ (j : Nat) (u : Value), vs[j]? = some u → cs[j]? = some u := by
  rcases h.shape with ⟨_, h0⟩ | ⟨g, c, cs, e, hb, hz, _, _, hcs⟩
  · rw [h0] at hv; simp at hv
  · exact ⟨g, c, e, hb, hz.lt, cs, hz, hcs⟩
theorem RowsOk.get {mb : Nat} (h : RowsOk W mb vs ts) {i : Nat} (hi : i < ts.length) : ∃ v t, vs[i]? = some v ∧ ts[i]? = some t ∧ LI W v t.row ∧ bk v ≠ some mb ∧ ∃ a c, v = .slice a t.row.length c := by
  have hi' : i < vs.length := by rw [h.1]; exact hi
  have hh := h.2 i _ _ (List.getElem?_eq_getElem hi') (List.getElem?_eq_getElem hi)
  obtain ⟨a, c, e, _⟩ := hh.1.shape
  exact ⟨_, _, List.getElem?_eq_getElem hi', List.getElem?_eq_getElem hi, hh.1, hh.2, a, c, e⟩
theorem drewN_below (w : World) (j : Nat) : Below w.heap.size w (w.drewN j) := below_drewN (Below.refl _ _) j
theorem only_set (w : World) (q i : Nat) (u : Value) : Only q q w (w.setCell ⟨q, i, none⟩ u) := ⟨rfl, rfl, rfl, by simp [World.setCell], fun k _ h _ => Below.heap_setCell w ⟨q, i, none⟩ u k h⟩
theorem FS.onlyq {n : Nat} {pri : Nat → Nat} {vx : Nat → Bool} {ty : TypeId} (h : FS w pb mb vb n pri mk vx) {cs : Array Value} (hz : Blk w q ty cs) (n1 : 51 ≠ ty) (n2 : 3 ≠ ty) (n3 : 4 ≠ ty) (ho : Only q q w w') : FS w' pb mb vb n pri mk vx := by
  obtain ⟨⟨z1, h1, e1⟩, ⟨z2, h2, d2, e2⟩, ⟨z3, h3, e3⟩⟩ := h
  have a1 := h1.ne_ hz n1
  have a2 := h2.ne_ hz n2
  have a3 := h3.ne_ hz n3
  exact ⟨⟨z1, h1.only ho a1 a1, e1⟩, ⟨z2, h2.only ho a2 a2, d2, e2⟩, ⟨z3, h3.only ho a3 a3, e3⟩⟩
theorem FS.grown {n : Nat} {pri : Nat → Nat} {vx : Nat → Bool} {r : Option Nat} (h : FS w pb mb vb n pri mk vx) (hg : w.grownBy w' r) (h1 : r ≠ some pb) (h2 : r ≠ some mb) (h3 : r ≠ some vb) : FS w' pb mb vb n pri mk vx :=
  ⟨h.p.keep (hg.block _ h.p.lt fun e => h1 e.symm), h.m.keep (hg.block _ h.m.lt fun e => h2 e.symm), h.v.keep (hg.block _ h.v.lt fun e => h3 e.symm)⟩
theorem RowV.ne_li {base : Nat} {l : List Nat} {u : Value} (h : RowV w base v vs) (hu : LI w u l) : ∀ b, bk u = some b → v.ownBlock ≠ some b := by
  intro b hb e
  rcases h.shape with ⟨rfl, _⟩ | ⟨g, c, cs, rfl, _, hz, _⟩
  · cases e
  · have : g = b := by injection e
    subst this
    exact hu.ne_blk hz (by decide) hb
theorem RowsOk.snoc (h : RowsOk W mb vs ts) {t : Tp} (hv : LI W v t.row) (hb : bk v ≠ some mb) : RowsOk W mb (vs ++ [v]) (ts ++ [t]) := by
  refine ⟨by simp [h.1], fun i u t' h1 h2 => ?_⟩
  by_cases hi : i < vs.length
  · rw [List.getElem?_append_left hi] at h1
    rw [List.getElem?_append_left (by rw [← h.1]; exact hi)] at h2
    exact h.2 i u t' h1 h2
  · rw [List.getElem?_append_right (by omega)] at h1
    rw [List.getElem?_append_right (by rw [← h.1]; omega)] at h2
    rw [h.1] at h1
    cases hk : i - ts.length with
    | zero => rw [hk] at h1 h2; simp at h1 h2; subst h1 h2; exact ⟨hv, hb⟩
    | succ k => rw [hk] at h1; simp at h1
theorem RowsOk.last {t : Tp} (h : RowsOk W mb (vs ++ [v]) (ts ++ [t])) : LI W v t.row := by
  have hl : vs.length = ts.length := by have := h.1; simpa using this
  exact (h.2 vs.length v t (by simp) (by rw [hl]; simp)).1
theorem wo_le {α : Type} (i k : Nat) : ∀ (j : Nat) (l : List α), (wo i k j l).length ≤ l.length
  | _, [] => Nat.le_refl _
  | j, x :: l => by have := wo_le i k (j + 1) l; simp only [wo]; split <;> simp <;> omega
theorem and1_i64 (n : Int) : bits .and .i64 n 1 = n % 2 := by
  have h1 : (BitVec.ofInt 64 1).toNat = 2 ^ 1 - 1 := by decide
  have key : (BitVec.ofInt 64 n &&& BitVec.ofInt 64 1).toNat = (n % ((2 ^ 64 : Nat) : Int)).toNat % 2 ^ 1 := by
    rw [BitVec.toNat_and, BitVec.toNat_ofInt, h1, Nat.and_two_pow_sub_one_eq_mod]
  show IntKind.i64.wrap ((BitVec.ofInt 64 n &&& BitVec.ofInt 64 1).toNat : Nat) = n % 2
  rw [key, IntKind.wrap_i64]
  omega
theorem andNot_i64 {s k : Nat} (hs : s < 4) (hk : k < 2) : bits .andNot .i64 (s : Int) (bt k : Int) = (setB s k false : Int) := by
  have key : ∀ s < 4, ∀ k < 2, bits .andNot .i64 ((s : Nat) : Int) ((bt k : Nat) : Int) = ((setB s k false : Nat) : Int) := by decide
  exact key s hs k hk
theorem orB_i64 {s k : Nat} (hs : s < 4) (hk : k < 2) : bits .or .i64 (setB s k false : Int) (bt k : Int) = (setB s k true : Int) := by
  have key : ∀ s < 4, ∀ k < 2, bits .or .i64 ((setB s k false : Nat) : Int) ((bt k : Nat) : Int) = ((setB s k true : Nat) : Int) := by decide
  exact key s hs k hk
end

end Go.Proofs.Ytaooglagddphnaa

/- Calls on trees that stand in a forest: Root, Index, Size, Marked, First, List, Merge, Split, Mark; a row has one tree. -/
namespace Go.Proofs.Ytaooglagddphnaa
open Go.RowKit

set_option maxRecDepth 100000

/-- A row has one tree. -/
theorem hp_root {pri : Nat → Nat} {x : Nat} {l : List Nat} : ∀ {t : Tp}, Hp pri t → t.row = x :: l → (∀ y ∈ l, ab pri x y = true) → t.root = x
  | .nil, _, h, _ => by simp [Tp.row] at h
  | .node a r b, hp, h, hx => by
    show r = x
    cases ha : a.row with
    | nil => rw [Tp.row_node, ha] at h; simp at h; exact h.1
    | cons z zs =>
      rw [Tp.row_node, ha] at h
      simp only [List.cons_append, List.cons.injEq] at h
      obtain ⟨rfl, rfl⟩ := h
      have h1 := hp.1 z (by rw [ha]; simp)
      have h2 := hx r (by simp)
      rw [ab_asymm h2] at h1; cases h1
theorem mid_eq {x : Nat} : ∀ {a b c d : List Nat}, a ++ x :: b = c ++ x :: d → (a ++ x :: b).Nodup → a = c ∧ b = d
  | [], b, [], d, h, _ => ⟨rfl, by simpa using h⟩
  | [], b, z :: c, d, h, hn => by
    simp only [List.nil_append, List.cons_append, List.cons.injEq] at h
    obtain ⟨rfl, rfl⟩ := h
    simp at hn
  | z :: a, b, [], d, h, hn => by
    simp only [List.nil_append, List.cons_append, List.cons.injEq] at h
    obtain ⟨rfl, _⟩ := h
    simp at hn
  | z :: a, b, y :: c, d, h, hn => by
    simp only [List.cons_append, List.cons.injEq] at h
    obtain ⟨rfl, h⟩ := h
    simp only [List.cons_append, List.nodup_cons] at hn
    obtain ⟨rfl, rfl⟩ := mid_eq h hn.2
    exact ⟨rfl, rfl⟩
theorem hp_one {pri : Nat → Nat} : ∀ {t u : Tp}, Hp pri t → Hp pri u → t.row = u.row → t.row.Nodup → t = u
  | .nil, u, _, _, h, _ => (Tp.row_eq_nil h.symm).symm
  | .node a x b, .nil, _, _, h, _ => by simp [Tp.row] at h
  | .node a x b, .node c y d, h1, h2, h, hn => by
    have e : x = y := by
      rcases Nat.decEq x y with hne | e
      · exfalso
        have hx : x ∈ (Tp.node c y d).row := by rw [← h]; simp [Tp.row]
        have hy : y ∈ (Tp.node a x b).row := by rw [h]; simp [Tp.row]
        simp only [Tp.row, List.mem_append, List.mem_cons] at hx hy
        have g1 : ab pri y x = true := by
          rcases hx with hx | hx | hx
          · exact h2.1 x hx
          · exact absurd hx hne
          · exact h2.2.1 x hx
        have g2 : ab pri x y = true := by
          rcases hy with hy | hy | hy
          · exact h1.1 y hy
          · exact absurd hy.symm hne
          · exact h1.2.1 y hy
        rw [ab_asymm g1] at g2; cases g2
      · exact e
    subst e
    rw [Tp.row_node] at hn h
    rw [Tp.row_node] at h
    obtain ⟨e1, e2⟩ := mid_eq h hn
    rw [List.nodup_append] at hn
    obtain ⟨n1, n2, _⟩ := hn
    rw [List.nodup_cons] at n2
    rw [hp_one h1.2.2.1 h2.2.2.1 e1 n1, hp_one h1.2.2.2 h2.2.2.2 e2 n2.2]

section
variable {w w' W : World} {V S T : Int} {p gb cap m i k x j : Nat} {g : Mg9} {mk : Nat → Nat} {ts : List Tp} {t ta tb : Tp} {on : Bool}
theorem FI.nodeAt (hF : FI V S g mk ts) (hn : nN V S ≤ 560) (h0 : ∀ k, g 0 k = 0) (hi : ts[i]? = some t) (hx : x ∈ t.row) :
    ∃ (us : List Fr) (l r : Tp), t = climb us (.node l x r) ∧ UpOk (vxN V) mk g us (.node l x r) ∧ Loose (vxN V) mk g (.node l x r) ∧ (∀ f ∈ us, 1 ≤ f.x ∧ f.x ≤ nN V S) ∧ us.length + 1 ≤ nN V S ∧ t.root = topOf us x ∧ g t.root 2 = 0 := by
  obtain ⟨a1, a2, a3, a4, a5, a6⟩ := hF.at hi
  obtain ⟨us, l, r, e⟩ := climb_to hx
  have hz : (climb us (.node l x r)).size < 65536 := by rw [← e]; omega
  have hp : ∀ y ∈ (climb us (.node l x r)).row, y ≠ 0 := by rw [← e]; exact fun y hy => (a5 y hy).1
  have hc := climb_up hF.hm (us := us) (t := .node l x r) (by rw [← e]; exact a1.1) hz hp
  have hs := climb_size us (.node l x r)
  rw [← e, Tp.size_node] at hs
  have hr : t.root = topOf us x := by rw [e, climb_root]; rfl
  refine ⟨us, l, r, e, hc.1, hc.2, fun f hf => ?_, by omega, hr, ?_⟩
  · have := a5 f.x (by rw [e]; exact climb_fr hf); omega
  · by_cases h : t.root = 0
    · rw [h]; exact h0 2
    · exact a1.2 h
theorem fown (A : TM w V S T p gb cap m g) (hF : FI V S g mk ts) (hi : ts[i]? = some t) (hx : x ∈ t.row) : oS (g x 6) = mk x := by
  obtain ⟨us, l, r, e, hu, hl, _⟩ := hF.nodeAt (nN_le A.hR) A.z hi hx
  have hz : (climb us (.node l x r)).size < 65536 := by have := (hF.at hi).2.2.2.2.2; have := nN_le A.hR; rw [← e]; omega
  rw [hl.2.2.1]
  exact sumT_own hF.hm (by have := climb_size us (.node l x r); omega)
theorem fmarked (A : TM w V S T p gb cap m g) (hF : FI V S g mk ts) (hi : ts[i]? = some t) (hx : x ∈ t.row) (hk : k < 2) (hm : m ≤ 99980000) {xI kI : Int} (hxI : xI = (x : Int)) (hkI : kI = (k : Int)) :
    Calls Try.prog 40 #[vTr V S T p, .int .i64 xI, .int .i64 kI] w (Did V S T p gb cap (m + 1) g (.bool (hasB (mk x) k)) w) := by
  subst hxI hkI
  have := tmarked A (x := x) ((hF.at hi).2.2.2.2.1 x hx).2 hk (show m ≤ 100000000 by omega)
  rw [fown A hF hi hx] at this
  exact this
theorem fmark (A : TM w V S T p gb cap m g) (hF : FI V S g mk ts) {x : Nat} {on : Bool} (h1 : x ≠ 0) (h2 : x ≤ nN V S) (hk : k < 2) (hm : m ≤ 99960000) {xa ka : Int} (hxa : xa = (x : Int)) (hka : ka = (k : Int)) :
    Calls Try.prog 123 #[vTr V S T p, .int .i64 xa, .int .i64 ka, .bool on] w fun e w' => ∃ g', e = .returned (.tuple #[]) ∧ TM w' V S T p gb cap (m + 7 + 7 * nN V S) g' ∧ (∀ y, g' y 5 = g y 5) ∧ FI V S g' (mkSet mk x k on) ts ∧ Only p gb w w' := by
  subst hxa hka
  have hn := nN_le (V := V) (S := S) (T := T) A.hR
  have h0 : ∀ k, g 0 k = 0 := TM.z A
  obtain ⟨i, t, us, l, r, hi, e, hu, hl, hus, hul, hr, hg⟩ := hF.node hn h0 h1 h2
  obtain ⟨a1, a2, a3, a4, a5, a6⟩ := hF.at hi
  have hm' := mkSet_lt (mk := mk) hF.hm (x := x) (on := on) hk
  have hz : (climb us (.node l x r)).size < 65536 := by rw [← e]; omega
  have hnd : (climb us (.node l x r)).row.Nodup := by rw [← e]; exact a4
  have hnd' := climb_nodup hnd
  have hz' : (Tp.node l x r).size < 65536 := by have := climb_size us (.node l x r); omega
  have own : oS (g x 6) = mk x := by rw [hl.2.2.1]; exact sumT_own hF.hm hz'
  have hsx : mkSet mk x k on x = setB (mk x) k on := if_pos rfl
  obtain ⟨g1, hg1⟩ : ∃ g1, reckG (vxN V) g x (setB (oS (g x 6)) k on) = g1 := ⟨_, rfl⟩
  have hg1' : reckG (vxN V) g x (mkSet mk x k on x) = g1 := by rw [hsx, ← own]; exact hg1
  have hoth : ∀ y j, (y ≠ x ∨ j ≠ 6) → g1 y j = g y j := fun y j hy => by
    rw [← hg1]
    rcases hy with hy | hy
    · exact reckG_other _ _ _ _ hy
    · exact reckG_field _ _ _ _ _ hy
  have hmo : ∀ y, y ≠ x → mkSet mk x k on y = mk y := fun y hy => if_neg hy
  have hu1 : UpOk (vxN V) (mkSet mk x k on) g1 us (.node l x r) := hu.turn (x0 := x) (by simp [Tp.row]) hnd hmo hoth
  have hl1 : Loose (vxN V) (mkSet mk x k on) g1 (.node l x r) := by
    have hnd2 := hnd'
    rw [Tp.row_node, List.nodup_append] at hnd2
    obtain ⟨nl, nr, nd⟩ := hnd2
    rw [List.nodup_cons] at nr
    have lx : ∀ y ∈ l.row, y ≠ x := fun y hy => nd y hy x (by simp)
    have rx : ∀ y ∈ r.row, y ≠ x := fun y hy e => nr.1 (e ▸ hy)
    rw [← hg1']
    exact reck_loose hm' h0 hnd' hz' hl.1 hl.2.1 hl.2.2.2.1 hl.2.2.2.2.1 (hl.2.2.2.2.2.1.congr (fun y hy => ⟨hmo y (lx y hy), rfl, rfl, rfl⟩) nl fun _ _ _ => rfl) (hl.2.2.2.2.2.2.congr (fun y hy => ⟨hmo y (rx y hy), rfl, rfl, rfl⟩) nr.2 fun _ _ _ => rfl)
  have h01 : ∀ k, g1 0 k = 0 := fun k => by rw [hoth 0 k (.inl (Ne.symm h1))]; exact h0 k
  have hc : Chn g1 (nN V S) (g1 x 2) (us.map Fr.x) := up_chn hu1 h1 (fun f hf => (hus f hf).2) (by rw [show (Tp.node l x r).root = x from rfl, ← hr, hoth _ _ (.inr (by decide))]; exact hg)
  have hrk : RecksOk V S (us.map Fr.x) := by
    clear hc hu1 hu e hr hul hz hnd
    induction us with
    | nil => trivial
    | cons f us ih => exact ⟨⟨(hus f (List.mem_cons_self ..)).1, (hus f (List.mem_cons_self ..)).2⟩, ih fun f' hf' => hus f' (List.mem_cons_of_mem _ hf')⟩
  refine (tmark (x := x) A hk ⟨by omega, h2⟩ hg1 hc (by rw [List.length_map]; show _ ≤ nN V S; omega) hrk (show m ≤ 99980000 by omega)).mono ?_
  rintro e' w' ⟨rfl, A', O'⟩
  have h5 : ∀ y, recks (vxN V) g1 (us.map Fr.x) y 5 = g y 5 := fun y => by rw [recks_other (.inr (by decide)), hoth _ _ (.inr (by decide))]
  refine ⟨_, rfl, A', h5, ?_, O'⟩
  have hp : ts.Perm ([t] ++ wo i i 0 ts) := wo_perm1 (Nat.zero_le _) hi
  have hx : x ∈ t.row := by rw [e]; exact climb_mem (by simp [Tp.row])
  have hL := recks_up hm' hu1 hl1 h1 h01 hnd hz
  rw [← e] at hL
  refine (hF.swap (N := [t]) (mk' := mkSet mk x k on) (g' := recks (vxN V) g1 (us.map Fr.x)) hp (List.Perm.refl _) ?_ ?_ h5 hm' ?_).perm ((List.perm_append_comm).trans hp.symm)
  · intro t' ht'
    have : t' = t := by simpa using ht'
    subst this
    exact ⟨⟨hL, fun h => by rw [recks_other (.inr (by decide)), hoth _ _ (.inr (by decide))]; exact hg⟩, a2, a3⟩
  · intro y hy j
    rw [flat_one] at hy
    have hyx : y ≠ x := fun e => hy (by rw [e]; exact hx)
    have hyu : y ∉ us.map Fr.x := fun hyu => by
      obtain ⟨f, hf, rfl⟩ := List.mem_map.1 hyu
      exact hy (by rw [e]; exact climb_fr hf)
    rw [recks_other (.inl hyu), hoth _ _ (.inl hyx)]
  · intro y hy
    rw [flat_one] at hy
    exact hmo y fun e => hy (by rw [e]; exact hx)
end

end Go.Proofs.Ytaooglagddphnaa

/- The law's begun: what came in, what is made; the loop's plain part. -/
namespace Go.Proofs.Ytaooglagddphnaa
open Go.RowKit

set_option maxRecDepth 100000

/-- Numbers that came in. -/
def IsNum (w : World) (a : Option Addr) (len : Nat) (f : Nat → Nat) : Prop :=
  0 < len → ∃ b off, a = some ⟨b, off, none⟩ ∧ ∀ k, k < len → w.cell? ⟨b, off + k, none⟩ = some (.int .u64 (f k : Int)) ∧ f k ≤ 18446744073709551615
/-- A call that came in. -/
structure Op5 where
  kd : Int
  a : Int
  b : Int
  k : Int
  on : Bool
abbrev i64In (z : Int) : Prop := -9223372036854775808 ≤ z ∧ z ≤ 9223372036854775807
def Op5.fit (o : Op5) : Prop := i64In o.a ∧ i64In o.b ∧ i64In o.k
def IsOp5 (w : World) (a : Option Addr) (len : Nat) (f : Nat → Op5) : Prop :=
  0 < len → ∃ b off, a = some ⟨b, off, none⟩ ∧ ∀ k, k < len →
    w.cell? ⟨b, off + k * 5, none⟩ = some (.int .i64 (f k).kd) ∧ w.cell? ⟨b, off + k * 5 + 1, none⟩ = some (.int .i64 (f k).a) ∧ w.cell? ⟨b, off + k * 5 + 2, none⟩ = some (.int .i64 (f k).b) ∧
    w.cell? ⟨b, off + k * 5 + 3, none⟩ = some (.int .i64 (f k).k) ∧ w.cell? ⟨b, off + k * 5 + 4, none⟩ = some (.bool (f k).on) ∧ (f k).fit
theorem IsNum.below {w w' : World} {a : Option Addr} {len : Nat} {f : Nat → Nat} (h : IsNum w a len f) (hb : Below w.heap.size w w') : IsNum w' a len f := fun h0 => by
  obtain ⟨b, off, e, hc⟩ := h h0
  exact ⟨b, off, e, fun k hk => ⟨cell_later hb (hc k hk).1, (hc k hk).2⟩⟩
theorem IsOp5.below {w w' : World} {a : Option Addr} {len : Nat} {f : Nat → Op5} (h : IsOp5 w a len f) (hb : Below w.heap.size w w') : IsOp5 w' a len f := fun h0 => by
  obtain ⟨b, off, e, hc⟩ := h h0
  exact ⟨b, off, e, fun k hk => have c := hc k hk; ⟨cell_later hb c.1, cell_later hb c.2.1, cell_later hb c.2.2.1, cell_later hb c.2.2.2.1, cell_later hb c.2.2.2.2.1, c.2.2.2.2.2⟩⟩

theorem info_b : (Try.prog.info? 4).map (fun i => (i.zero, i.size, i.bytes)) = some (some (.bool false), 1, 1) := by kernel_rfl
theorem made_u (n : Nat) (hn : n ≤ 100000) (w : World) : (Instr.makeSlice 62 (.int .i64 ((n : Int) + 1)) (.int .i64 ((n : Int) + 1))).run Try.prog w = .ok (.slice (some ⟨w.heap.size, 0, none⟩) (n + 1) (n + 1)) (w.alloc (.cells (madeCells #[.int .u64 0] ((n + 1) * 1)) 51)) := by
  obtain ⟨i0, hi0, hz0, hz1, hz2⟩ := info_parts info_u64
  have h := run_make (P := Try.prog) w 62 51 i0 (.int .u64 0) Try.underlying62 hi0 hz0 .i64 .i64 ((n : Int) + 1) ((n : Int) + 1) (by omega) (Int.le_refl _) (by rw [hz2]; omega) (by omega)
  rw [show ((n : Int) + 1).toNat = n + 1 by omega, hz1] at h
  exact h
theorem made_i (n : Nat) (hn : n ≤ 100000) (w : World) : (Instr.makeSlice 60 (.int .i64 ((n : Int) + 1)) (.int .i64 ((n : Int) + 1))).run Try.prog w = .ok (.slice (some ⟨w.heap.size, 0, none⟩) (n + 1) (n + 1)) (w.alloc (.cells (madeCells #[.int .i64 0] ((n + 1) * 1)) 3)) := by
  obtain ⟨i0, hi0, hz0, hz1, hz2⟩ := info_parts info_i
  have h := run_make (P := Try.prog) w 60 3 i0 (.int .i64 0) Try.underlying60 hi0 hz0 .i64 .i64 ((n : Int) + 1) ((n : Int) + 1) (by omega) (Int.le_refl _) (by rw [hz2]; omega) (by omega)
  rw [show ((n : Int) + 1).toNat = n + 1 by omega, hz1] at h
  exact h
theorem made_b (n : Nat) (hn : n ≤ 100000) (w : World) : (Instr.makeSlice 171 (.int .i64 ((n : Int) + 1)) (.int .i64 ((n : Int) + 1))).run Try.prog w = .ok (.slice (some ⟨w.heap.size, 0, none⟩) (n + 1) (n + 1)) (w.alloc (.cells (madeCells #[.bool false] ((n + 1) * 1)) 4)) := by
  obtain ⟨i0, hi0, hz0, hz1, hz2⟩ := info_parts info_b
  have h := run_make (P := Try.prog) w 171 4 i0 (.bool false) Try.underlying171 hi0 hz0 .i64 .i64 ((n : Int) + 1) ((n : Int) + 1) (by omega) (Int.le_refl _) (by rw [hz2]; omega) (by omega)
  rw [show ((n : Int) + 1).toNat = n + 1 by omega, hz1] at h
  exact h
theorem made_at (v : Value) (n k : Nat) (hk : k < n) : (madeCells #[v] n)[k]? = some v := by
  unfold madeCells
  simp only [Array.getElem?_map, Array.getElem?_range, if_pos hk, Option.map_some]
  simp [Nat.mod_one]
theorem AP.made (w : World) (n : Nat) : AP (w.alloc (.cells (madeCells #[.int .u64 0] ((n + 1) * 1)) 51)) w.heap.size n (fun _ => 0) := ⟨_, Blk.new _ _ _, fun k hk => made_at _ _ _ (by omega)⟩
theorem AM.made (w : World) (n : Nat) : AM (w.alloc (.cells (madeCells #[.int .i64 0] ((n + 1) * 1)) 3)) w.heap.size n (fun _ => 0) := ⟨_, Blk.new _ _ _, by rw [size_madeCells]; omega, fun k hk => made_at _ _ _ (by omega)⟩
theorem AV.made (w : World) (n : Nat) : AV (w.alloc (.cells (madeCells #[.bool false] ((n + 1) * 1)) 4)) w.heap.size n (fun _ => false) := ⟨_, Blk.new _ _ _, fun k hk => made_at _ _ _ (by omega)⟩

/-- A node alone. -/
def sgl (x : Nat) : Tp := .node .nil x .nil
theorem sgl_row (x : Nat) : (sgl x).row = [x] := rfl
/-- The first nodes, each alone. -/
def sing (k : Nat) : List Tp := (List.range' 1 k).map sgl
theorem sing_succ (k : Nat) : sing (k + 1) = sing k ++ [sgl (k + 1)] := by
  unfold sing
  rw [List.range'_concat, List.map_append]
  simp [Nat.add_comm]
theorem sing_flat (k : Nat) : (sing k).flatMap Tp.row = List.range' 1 k := by
  unfold sing
  rw [List.flatMap_map]
  have : (fun x => (sgl x).row) = fun x => [x] := rfl
  rw [this]
  induction (List.range' 1 k) with
  | nil => rfl
  | cons x l ih => rw [List.flatMap_cons, ih]; rfl
theorem sing_mem {k : Nat} {t : Tp} (h : t ∈ sing k) : ∃ x, 1 ≤ x ∧ x ≤ k ∧ t = sgl x := by
  unfold sing at h
  obtain ⟨x, hx, rfl⟩ := List.mem_map.1 h
  obtain ⟨i, hi, rfl⟩ := List.mem_range'.1 hx
  exact ⟨_, by omega, by omega, rfl⟩
theorem sing_len (k : Nat) : (sing k).length = k := by simp [sing]

section
variable {V S T : Int} {g : Mg9} {w w' : World} {p gb cap m : Nat} {mk : Nat → Nat} {vx : Nat → Bool}
theorem aloneG_other {x y : Nat} (j : Nat) (h : y ≠ x) : aloneG vx g x y j = g y j := by
  unfold aloneG; rw [reckG_other _ _ _ _ h, setP_other _ _ _ h, up2_node _ _ _ _ h, up2_node _ _ _ _ h]
theorem aloneG_pri {x y : Nat} : aloneG vx g x y 5 = g y 5 := by
  unfold aloneG; rw [reckG_field _ _ _ _ _ (by decide), setP_field _ _ _ _ (by decide), up2_field _ _ _ _ (by decide), up2_field _ _ _ _ (by decide)]
theorem alone_stands {x : Nat} (hx : x ≠ 0) (h0 : ∀ k, g 0 k = 0) : Stands vx (fun _ => 0) (aloneG vx g x) (sgl x) := by
  have g0 : ∀ k, setP (up2 (up2 g x 3 0) x 4 0) x 0 0 k = 0 := fun k => by rw [setP_other _ _ _ (Ne.symm hx), up2_node _ _ _ _ (Ne.symm hx), up2_node _ _ _ _ (Ne.symm hx)]; exact h0 k
  refine ⟨reck_loose (mk := fun _ => 0) (fun _ => Nat.zero_lt_succ 3) g0 (l := .nil) (r := .nil) (by simp [Tp.row]) (by simp [Tp.size, Tp.row]) ?_ ?_ (fun h => absurd rfl h) (fun h => absurd rfl h) trivial trivial, fun _ => ?_⟩
  · rw [setP_field _ _ _ _ (by decide), up2_field _ _ _ _ (by decide), up2_same]; rfl
  · rw [setP_field _ _ _ _ (by decide), up2_same]; rfl
  · show aloneG vx g x x 2 = 0
    unfold aloneG
    rw [reckG_field _ _ _ _ _ (by decide), setP_same _ _ hx]
/-- A new memory's nodes. -/
theorem TM.new (hR : Rt V S T) {cap : Nat} (A : Ar w p gb (cellsN V S T) cap zeroF zeroF) : TM w V S T p gb cap 0 (fun _ _ => 0) :=
  ⟨hR, zeroF, zeroF, A, fun _ => ⟨Int.le_refl _, Int.le_refl _⟩, ⟨fun _ => rfl, fun _ _ _ _ _ _ => rfl, fun _ _ _ _ => rfl, fun _ _ _ _ => ⟨by rfl, by rfl⟩, fun _ _ => ⟨Nat.zero_le _, Nat.zero_le _, Nat.zero_le _⟩, fun _ _ => rfl⟩⟩
/-- A node's priority is stored by the law. -/
theorem lstore5 (A : TM w V S T p gb cap m g) {x v : Nat} (h1 : 1 ≤ x) (h2 : x ≤ nN V S) (hv : v ≤ 18446744073709551615) (hm : m ≤ 100000000) :
    Calls Try.prog 36 #[.pointer (some ⟨p, 0, none⟩), .int .i64 (cN V S T x 5 : Int), .int .u64 (v : Int)] w (Did V S T p gb cap (m + 1) (up2 g x 5 v) (.int .i64 0) w) := by
  obtain ⟨c, f, Aa, C, r⟩ := A.ar
  refine (store_yes Aa (cN_lt A.hR h1 h2 (by omega)) (v := (v : Int)) (by omega) (by omega) C hm).mono ?_
  rintro e w' ⟨rfl, A1, O1⟩
  exact ⟨rfl, ⟨A.hR, _, _, A1, C.upd 1, r.store A.hR h1 h2 (by omega) (by omega) (fun h => by omega)⟩, O1⟩
theorem cells_small (hR : Rt V S T) : cellsN V S T ≤ 16384 ∧ ((cellsN V S T : Nat) : Int) = cn V S T := by
  have z := sizes hR
  have a1 := z.vn1; have a2 := z.vn2; have a3 := z.pr1; have a4 := z.pr2; have a5 := z.nd1; have a6 := z.nd2
  have b1 := hR.s1; have b2 := hR.s2; have b3 := hR.t1; have b4 := hR.t2
  unfold cellsN cn
  omega
end

end Go.Proofs.Ytaooglagddphnaa

/- The law's begun. Printed by wip/tools/trqk.py. -/
namespace Go.Proofs.Ytaooglagddphnaa
open Go.RowKit

set_option maxRecDepth 100000

/-- What doesn't turn. -/
structure BC (w0 : World) (q fb p gb pb mb vb : Nat) : Prop where
  npg : pb ≠ gb
  q : w0.heap.size ≤ q
  f : w0.heap.size ≤ fb
  p : w0.heap.size ≤ p
  g : w0.heap.size ≤ gb
  pb : w0.heap.size ≤ pb
  m : w0.heap.size ≤ mb
  v : w0.heap.size ≤ vb
section
variable {w w' W W' w0 : World} {V S T : Int} {zb l3 q p gb cap m m' pb mb vb cp cm cv fb dl dc n x pr : Nat} {da : Option Addr} {vo vr vr' : Value} {g g' : Mg9} {P P' : Nat → Nat} {vx vx' : Nat → Bool} {vs vs' : List Value} {ts ts' : List Tp}
theorem lnodes (hR : Rt V S T) (w : World) : Calls Try.prog 35 #[vL V S T] w fun e w' => e = .returned (.int .i64 (nN V S : Int)) ∧ Below w.heap.size w w' := by
  rw [nN_int hR]; exact nodes_yes V S T hR w
theorem lnew (hR : Rt V S T) (w : World) : Calls Try.prog 43 #[.int .i64 (cn V S T)] w fun e w' => e = .returned (.tuple #[.pointer (some ⟨w.heap.size + 1, 0, none⟩), .int .i64 0]) ∧ Ar w' (w.heap.size + 1) w.heap.size (cellsN V S T) (cellsN V S T) zeroF zeroF ∧ Below w.heap.size w w' := by
  rw [← (cells_small hR).2]; exact new_yes _ w (cells_small hR).1

/-- A node's priority. -/
def priF (dl : Nat) (f : Nat → Nat) (x : Nat) : Nat := if dl = 0 then 0 else f (x % dl)
theorem sing_fi (hs : ∀ y, 1 ≤ y → y < nN V S + 1 → Stands (vxN V) (fun _ => 0) g (sgl y)) : FI V S g (fun _ => 0) (sing (nN V S)) := by
  refine ⟨fun _ => by decide, fun t ht => ?_, ?_, fun x => ?_⟩
  · obtain ⟨x, h1, h2, rfl⟩ := sing_mem ht
    exact ⟨hs x h1 (by omega), ⟨(fun y hy => by cases hy), (fun y hy => by cases hy), trivial, trivial⟩, (by unfold sgl; exact fun e => nomatch e)⟩
  · rw [sing_flat]; exact List.nodup_range'
  · rw [← List.mem_flatMap, sing_flat, List.mem_range'_1]; omega
end

end Go.Proofs.Ytaooglagddphnaa
