/- ZF: what BiPSound leans on. Printed by wip/tools/slim13.py. -/
import Derived.Test.YtaooglagddphnaaSZE
import Derived.Test.YtaooglagddphnaaSZB
import Derived.Laws.AppendOwnNone
import Derived.Maps.AppendAt
import Derived.BigQuiet
import Derived.Deep.CutRange
import Derived.Test.YtaooglagddphnaaSZA

/- The law's own look at memory: Field, Load; contract of parent. -/
namespace Go.Proofs.Ytaooglagddphnaa
open Go.RowKit

set_option maxRecDepth 100000

section
variable {w w' W : World} {V S T : Int} {q p gb cap m pb mb vb cp cm cv n x k : Nat} {g : Mg9} {vr : Value}
theorem lfield (hR : Rt V S T) {kI : Int} (hk : kI = (k : Int)) (h1 : 1 ≤ x) (h2 : x ≤ nN V S) (h3 : k < 7) (w : World) :
    Calls Try.prog 37 #[vL V S T, .int .i64 (x : Int), .int .i64 kI] w fun e w' => e = .returned (.int .i64 (cN V S T x k : Int)) ∧ Below w.heap.size w w' := by
  subst hk
  have hn := nN_le hR
  rw [← field_cN hR h1 h2 h3]
  exact field_yes V S T (x : Int) (k : Int) hR (by omega) (by omega) w
end

end Go.Proofs.Ytaooglagddphnaa

/- Contract of the law's is. Printed by wip/tools/trqb.py. -/
namespace Go.Proofs.Ytaooglagddphnaa
open Go.RowKit

set_option maxRecDepth 100000


end Go.Proofs.Ytaooglagddphnaa

/- What calls leave right, plainly: rows that are swapped for others, marks, chains of parents. -/
namespace Go.Proofs.Ytaooglagddphnaa

section
variable {α : Type}
theorem wo_out {i k : Nat} : ∀ {j : Nat} (l : List α), i < j → k < j → wo i k j l = l
  | _, [], _, _ => rfl
  | j, x :: l, h1, h2 => by
    simp only [wo]
    rw [if_pos ⟨by omega, by omega⟩, wo_out l (by omega) (by omega)]
theorem wo_left {i k : Nat} : ∀ {j : Nat} (l : List α), i < j → wo i k j l = wo k k j l
  | _, [], _ => rfl
  | j, x :: l, h1 => by
    simp only [wo]
    rw [wo_left l (by omega : i < j + 1)]
    by_cases h : j = k
    · rw [if_neg (by omega), if_neg (by omega)]
    · rw [if_pos ⟨by omega, h⟩, if_pos ⟨h, h⟩]
theorem wo_comm {i k : Nat} : ∀ {j : Nat} (l : List α), wo i k j l = wo k i j l
  | _, [] => rfl
  | j, x :: l => by
    simp only [wo]
    rw [wo_comm l]
    by_cases h : j ≠ i ∧ j ≠ k
    · rw [if_pos h, if_pos ⟨h.2, h.1⟩]
    · rw [if_neg h, if_neg fun e => h ⟨e.2, e.1⟩]
theorem wo_perm1 {i : Nat} {x : α} : ∀ {j : Nat} {l : List α}, j ≤ i → l[i - j]? = some x → l.Perm (x :: wo i i j l)
  | j, [], _, h => by simp at h
  | j, y :: l, h1, h => by
    by_cases e : i = j
    · subst e
      rw [Nat.sub_self] at h
      simp at h
      subst h
      simp only [wo]
      rw [if_neg (by omega), wo_out l (by omega) (by omega)]
    · rw [show i - j = (i - (j + 1)) + 1 by omega] at h
      have ih := wo_perm1 (i := i) (x := x) (j := j + 1) (l := l) (by omega) (by simpa using h)
      simp only [wo]
      rw [if_pos ⟨by omega, by omega⟩]
      exact (ih.cons y).trans (List.Perm.swap x y _)
theorem wo_perm2 {i k : Nat} (hik : i ≠ k) {x y : α} : ∀ {j : Nat} {l : List α}, j ≤ i → j ≤ k → l[i - j]? = some x → l[k - j]? = some y → l.Perm (x :: y :: wo i k j l)
  | j, [], _, _, h, _ => by simp at h
  | j, z :: l, h1, h2, h, h' => by
    by_cases e : i = j
    · subst e
      rw [Nat.sub_self] at h
      simp at h
      subst h
      rw [show k - i = (k - (i + 1)) + 1 by omega] at h'
      have := wo_perm1 (i := k) (x := y) (j := i + 1) (l := l) (by omega) (by simpa using h')
      simp only [wo]
      rw [if_neg (by omega), wo_left l (by omega)]
      exact this.cons z
    · by_cases e' : k = j
      · subst e'
        rw [Nat.sub_self] at h'
        simp at h'
        subst h'
        rw [show i - k = (i - (k + 1)) + 1 by omega] at h
        have := wo_perm1 (i := i) (x := x) (j := k + 1) (l := l) (by omega) (by simpa using h)
        simp only [wo]
        rw [if_neg (by omega), wo_comm, wo_left l (by omega)]
        exact (this.cons z).trans (List.Perm.swap x z _)
      · rw [show i - j = (i - (j + 1)) + 1 by omega] at h
        rw [show k - j = (k - (j + 1)) + 1 by omega] at h'
        have ih := wo_perm2 hik (x := x) (y := y) (j := j + 1) (l := l) (by omega) (by omega) (by simpa using h) (by simpa using h')
        simp only [wo]
        rw [if_pos ⟨by omega, by omega⟩]
        exact ((ih.cons z).trans (List.Perm.swap x z _)).trans ((List.Perm.swap y z _).cons x)
end

section
variable {V S : Int} {g g' : Mg9} {mk mk' : Nat → Nat} {ts ts' : List Tp}
theorem flat_perm {l l' : List Tp} (h : l.Perm l') : (l.flatMap Tp.row).Perm (l'.flatMap Tp.row) := List.Perm.flatMap_right _ h
theorem FI.mem (h : FI V S g mk ts) (x : Nat) : (x ≠ 0 ∧ x ≤ nN V S) ↔ x ∈ ts.flatMap Tp.row := (h.al x).trans List.mem_flatMap.symm
theorem FI.perm (h : FI V S g mk ts) (hp : ts.Perm ts') : FI V S g mk ts' :=
  ⟨h.hm, fun t ht => h.st t (hp.mem_iff.2 ht), (flat_perm hp).nodup_iff.1 h.nd, fun x => (h.mem x).trans ((flat_perm hp).mem_iff.trans List.mem_flatMap)⟩
end


end Go.Proofs.Ytaooglagddphnaa

/- Calls on a play: Root of the reference, Merge, Split, Mark; rows of numbers of one's own. -/
namespace Go.Proofs.Ytaooglagddphnaa
open Go.RowKit

set_option maxRecDepth 100000

/-- Numbers in a slice of one's own. -/
def RI (w : World) (base : Nat) (v : Value) (l : List Nat) : Prop := w.ownsRow base 3 1 v l.length (l.map fun s : Nat => Value.int .i64 (s : Int))
section
variable {w w' W : World} {base : Nat} {v u : Value} {l l2 : List Nat}
theorem RI.li (h : RI w base v l) : LI w v l := (LI.of_owns h).1
theorem RI.bk (h : RI w base v l) : ∀ b, bk v = some b → base ≤ b := (LI.of_owns h).2
theorem RI.nil (w : World) (base : Nat) : RI w base (.slice none 0 0) [] := World.ownsRow_nil _ _ _ _
theorem RI.lt (h : RI w base v l) : ∀ k, v.ownBlock = some k → base ≤ k ∧ k < w.heap.size := World.ownsRow.lt h
/-- append of a slice onto one's own. -/
theorem wpList_append_ri (w : World) {ops : Array Oper} {rest : List Oper} {o : Oper} {a : Act} {Q : Exit → Act → World → Prop} (hgd : o.guard = none) (s x : Operand)
    (ho : o.op = .call { callee := .builtin .append, args := #[s, x], argTypes := #[60, 60] })
    {base : Nat} {v u : Value} {l l2 : List Nat} (hs : a.eval s = v) (h : RI w base v l) (hx : a.eval x = u) (hu : LI w u l2) (hl : l.length + l2.length ≤ 100000) (hb : base ≤ w.heap.size)
    (hK : ∀ v' w', RI w' base v' (l ++ l2) → w.grownBy w' v.ownBlock → wpList Try.prog ops Q rest (a.put o.dst v') w') : wpList Try.prog ops Q (o :: rest) a w := by
  obtain ⟨i0, hi0, hz0, hz1, hz2⟩ := info_parts info_i
  obtain ⟨ao, cap, rfl, h1, h2, h3, h4⟩ := hu
  have hone : ∀ u ∈ (l2.map fun s : Nat => Value.int .i64 (s : Int)), u.oneCell' = true := by
    intro u hu
    obtain ⟨y, _, rfl⟩ := List.mem_map.1 hu
    rfl
  have fin : ∀ v' w', w'.ownsRow base 3 1 v' (l.length + l2.length) ((l.map fun s : Nat => Value.int .i64 (s : Int)) ++ (l2.map fun s : Nat => Value.int .i64 (s : Int))) → w.grownBy w' v.ownBlock → wpList Try.prog ops Q rest (a.put o.dst v') w' := by
    intro v' w' h1 h2
    refine hK v' w' ?_ h2
    unfold RI
    rw [List.length_append, List.map_append]; exact h1
  cases ao with
  | none =>
    have hc0 := h3 rfl
    have hl0 : l2 = [] := List.eq_nil_of_length_eq_zero (by omega)
    subst hl0 hc0
    exact wpList_append_own_none hgd s x 60 ho base 3 i0 1 Try.underlying60 hi0 v l.length _ hs h hx (fin v w (by unfold RI at h; simpa using h) ⟨rfl, rfl, rfl, Nat.le_refl _, fun _ _ _ => rfl⟩)
  | some ad =>
    refine wpList_append_own_at w hgd s x 60 ho base 3 i0 _ 1 8 Try.underlying60 hi0 hz0 hz1 hz2 rfl (by omega) v l.length _ hs h ad l2.length cap (l2.map fun s : Nat => Value.int .i64 (s : Int)) hx (by simp) ?_ hone (by simp only [maxLen]; omega) (by omega) hb (fun v' w' a1 a2 _ _ => fin v' w' a1 a2)
    intro j u hj
    obtain ⟨y, hy, rfl⟩ : ∃ y, l2[j]? = some y ∧ u = .int .i64 (y : Int) := by
      simp only [List.getElem?_map, Option.map_eq_some_iff] at hj
      obtain ⟨y, hy, e⟩ := hj
      exact ⟨y, hy, e.symm⟩
    have hj' := (List.getElem?_eq_some_iff.1 hy).1
    obtain ⟨b, off, zs, e, hz, hs2, hx2⟩ := h4 (by omega)
    injection e with e
    rw [e, Addr.add_lit, hz.cell]
    exact hx2 j y hy
end

section
variable {w w' W : World} {V S T : Int} {q p gb cap pb mb vb cp cm cv base m m' i k : Nat} {g : Mg9} {mk : Nat → Nat} {ts : List Tp} {vr v : Value} {vs : List Value} {t ta tb : Tp}
theorem FI.pair (_hF : FI V S g mk ts) (hik : i ≠ k) (ha : ts[i]? = some ta) (hb : ts[k]? = some tb) : ts.Perm ([ta, tb] ++ wo i k 0 ts) := wo_perm2 hik (Nat.zero_le _) (Nat.zero_le _) ha hb
theorem flat_two : [ta, tb].flatMap Tp.row = ta.row ++ tb.row := by simp
end

end Go.Proofs.Ytaooglagddphnaa

/- The law's step: what stands beside a play; the calls of row. Printed by wip/tools/trqe.py. -/
namespace Go.Proofs.Ytaooglagddphnaa
open Go.RowKit

set_option maxRecDepth 100000

section
variable {w w' W W' w0 : World} {V S T : Int} {q p gb cap pb mb vb cp cm cv base m m' ob n : Nat} {g g' : Mg9} {mk : Nat → Nat} {ts : List Tp} {vr v : Value} {vs : List Value} {K : PK9} {kd a b k : Int} {on : Bool}
/-- A row's slice, in its place. -/
theorem RowV.at {base : Nat} (h : RowV W base vr vs) {i : Nat} (hv : vs[i]? = some v) : ∃ rg c, vr = .slice (some ⟨rg, 0, none⟩) vs.length c ∧ base ≤ rg ∧ rg < W.heap.size ∧ ∃ cs, Blk W rg 60 cs ∧ ∀ (j : Nat) (u : Value), vs[j]? = some u → cs[j]? = some u := by
  rcases h.shape with ⟨_, h0⟩ | ⟨g, c, cs, e, hb, hz, _, _, hcs⟩
  · rw [h0] at hv; simp at hv
  · exact ⟨g, c, e, hb, hz.lt, cs, hz, hcs⟩
theorem drewN_below (w : World) (j : Nat) : Below w.heap.size w (w.drewN j) := below_drewN (Below.refl _ _) j
end

end Go.Proofs.Ytaooglagddphnaa

/- Calls on trees that stand in a forest: Root, Index, Size, Marked, First, List, Merge, Split, Mark; a row has one tree. -/
namespace Go.Proofs.Ytaooglagddphnaa
open Go.RowKit

set_option maxRecDepth 100000

theorem mid_eq {x : Nat} : ∀ {a b c d : List Nat}, a ++ x :: b = c ++ x :: d → (a ++ x :: b).Nodup → a = c ∧ b = d
  | [], b, [], d, h, _ => ⟨rfl, by simpa using h⟩
  | [], b, z :: c, d, h, hn => by
    simp only [List.nil_append, List.cons_append, List.cons.injEq] at h
    obtain ⟨rfl, rfl⟩ := h
    simp at hn
  | z :: a, b, [], d, h, hn => by
    simp only [List.nil_append, List.cons_append, List.cons.injEq] at h
    obtain ⟨rfl, _⟩ := h
    simp at hn
  | z :: a, b, y :: c, d, h, hn => by
    simp only [List.cons_append, List.cons.injEq] at h
    obtain ⟨rfl, h⟩ := h
    simp only [List.cons_append, List.nodup_cons] at hn
    obtain ⟨rfl, rfl⟩ := mid_eq h hn.2
    exact ⟨rfl, rfl⟩

end Go.Proofs.Ytaooglagddphnaa

/- The law's begun: what came in, what is made; the loop's plain part. -/
namespace Go.Proofs.Ytaooglagddphnaa
open Go.RowKit

set_option maxRecDepth 100000

/-- Numbers that came in. -/
def IsNum (w : World) (a : Option Addr) (len : Nat) (f : Nat → Nat) : Prop :=
  0 < len → ∃ b off, a = some ⟨b, off, none⟩ ∧ ∀ k, k < len → w.cell? ⟨b, off + k, none⟩ = some (.int .u64 (f k : Int)) ∧ f k ≤ 18446744073709551615
theorem IsNum.below {w w' : World} {a : Option Addr} {len : Nat} {f : Nat → Nat} (h : IsNum w a len f) (hb : Below w.heap.size w w') : IsNum w' a len f := fun h0 => by
  obtain ⟨b, off, e, hc⟩ := h h0
  exact ⟨b, off, e, fun k hk => ⟨cell_later hb (hc k hk).1, (hc k hk).2⟩⟩
theorem info_b : (Try.prog.info? 4).map (fun i => (i.zero, i.size, i.bytes)) = some (some (.bool false), 1, 1) := by kernel_rfl
theorem made_u (n : Nat) (hn : n ≤ 100000) (w : World) : (Instr.makeSlice 62 (.int .i64 ((n : Int) + 1)) (.int .i64 ((n : Int) + 1))).run Try.prog w = .ok (.slice (some ⟨w.heap.size, 0, none⟩) (n + 1) (n + 1)) (w.alloc (.cells (madeCells #[.int .u64 0] ((n + 1) * 1)) 51)) := by
  obtain ⟨i0, hi0, hz0, hz1, hz2⟩ := info_parts info_u64
  have h := run_make (P := Try.prog) w 62 51 i0 (.int .u64 0) Try.underlying62 hi0 hz0 .i64 .i64 ((n : Int) + 1) ((n : Int) + 1) (by omega) (Int.le_refl _) (by rw [hz2]; omega) (by omega)
  rw [show ((n : Int) + 1).toNat = n + 1 by omega, hz1] at h
  exact h
/-- A node alone. -/
def sgl (x : Nat) : Tp := .node .nil x .nil
/-- The first nodes, each alone. -/
def sing (k : Nat) : List Tp := (List.range' 1 k).map sgl
theorem sing_flat (k : Nat) : (sing k).flatMap Tp.row = List.range' 1 k := by
  unfold sing
  rw [List.flatMap_map]
  have : (fun x => (sgl x).row) = fun x => [x] := rfl
  rw [this]
  induction (List.range' 1 k) with
  | nil => rfl
  | cons x l ih => rw [List.flatMap_cons, ih]; rfl
theorem sing_mem {k : Nat} {t : Tp} (h : t ∈ sing k) : ∃ x, 1 ≤ x ∧ x ≤ k ∧ t = sgl x := by
  unfold sing at h
  obtain ⟨x, hx, rfl⟩ := List.mem_map.1 h
  obtain ⟨i, hi, rfl⟩ := List.mem_range'.1 hx
  exact ⟨_, by omega, by omega, rfl⟩
section
variable {V S T : Int} {g : Mg9} {w w' : World} {p gb cap m : Nat} {mk : Nat → Nat} {vx : Nat → Bool}
theorem aloneG_other {x y : Nat} (j : Nat) (h : y ≠ x) : aloneG vx g x y j = g y j := by
  unfold aloneG; rw [reckG_other _ _ _ _ h, setP_other _ _ _ h, up2_node _ _ _ _ h, up2_node _ _ _ _ h]
theorem aloneG_pri {x y : Nat} : aloneG vx g x y 5 = g y 5 := by
  unfold aloneG; rw [reckG_field _ _ _ _ _ (by decide), setP_field _ _ _ _ (by decide), up2_field _ _ _ _ (by decide), up2_field _ _ _ _ (by decide)]
theorem alone_stands {x : Nat} (hx : x ≠ 0) (h0 : ∀ k, g 0 k = 0) : Stands vx (fun _ => 0) (aloneG vx g x) (sgl x) := by
  have g0 : ∀ k, setP (up2 (up2 g x 3 0) x 4 0) x 0 0 k = 0 := fun k => by rw [setP_other _ _ _ (Ne.symm hx), up2_node _ _ _ _ (Ne.symm hx), up2_node _ _ _ _ (Ne.symm hx)]; exact h0 k
  refine ⟨reck_loose (mk := fun _ => 0) (fun _ => Nat.zero_lt_succ 3) g0 (l := .nil) (r := .nil) (by simp [Tp.row]) (by simp [Tp.size, Tp.row]) ?_ ?_ (fun h => absurd rfl h) (fun h => absurd rfl h) trivial trivial, fun _ => ?_⟩
  · rw [setP_field _ _ _ _ (by decide), up2_field _ _ _ _ (by decide), up2_same]; rfl
  · rw [setP_field _ _ _ _ (by decide), up2_same]; rfl
  · show aloneG vx g x x 2 = 0
    unfold aloneG
    rw [reckG_field _ _ _ _ _ (by decide), setP_same _ _ hx]
theorem cells_small (hR : Rt V S T) : cellsN V S T ≤ 16384 ∧ ((cellsN V S T : Nat) : Int) = cn V S T := by
  have z := sizes hR
  have a1 := z.vn1; have a2 := z.vn2; have a3 := z.pr1; have a4 := z.pr2; have a5 := z.nd1; have a6 := z.nd2
  have b1 := hR.s1; have b2 := hR.s2; have b3 := hR.t1; have b4 := hR.t2
  unfold cellsN cn
  omega
end

end Go.Proofs.Ytaooglagddphnaa

/- The law's begun. Printed by wip/tools/trqk.py. -/
namespace Go.Proofs.Ytaooglagddphnaa
open Go.RowKit

set_option maxRecDepth 100000

section
variable {w w' W W' w0 : World} {V S T : Int} {zb l3 q p gb cap m m' pb mb vb cp cm cv fb dl dc n x pr : Nat} {da : Option Addr} {vo vr vr' : Value} {g g' : Mg9} {P P' : Nat → Nat} {vx vx' : Nat → Bool} {vs vs' : List Value} {ts ts' : List Tp}
theorem lnodes (hR : Rt V S T) (w : World) : Calls Try.prog 35 #[vL V S T] w fun e w' => e = .returned (.int .i64 (nN V S : Int)) ∧ Below w.heap.size w w' := by
  rw [nN_int hR]; exact nodes_yes V S T hR w
theorem lnew (hR : Rt V S T) (w : World) : Calls Try.prog 43 #[.int .i64 (cn V S T)] w fun e w' => e = .returned (.tuple #[.pointer (some ⟨w.heap.size + 1, 0, none⟩), .int .i64 0]) ∧ Ar w' (w.heap.size + 1) w.heap.size (cellsN V S T) (cellsN V S T) zeroF zeroF ∧ Below w.heap.size w w' := by
  rw [← (cells_small hR).2]; exact new_yes _ w (cells_small hR).1

theorem sing_fi (hs : ∀ y, 1 ≤ y → y < nN V S + 1 → Stands (vxN V) (fun _ => 0) g (sgl y)) : FI V S g (fun _ => 0) (sing (nN V S)) := by
  refine ⟨fun _ => by decide, fun t ht => ?_, ?_, fun x => ?_⟩
  · obtain ⟨x, h1, h2, rfl⟩ := sing_mem ht
    exact ⟨hs x h1 (by omega), ⟨(fun y hy => by cases hy), (fun y hy => by cases hy), trivial, trivial⟩, (by unfold sgl; exact fun e => nomatch e)⟩
  · rw [sing_flat]; exact List.nodup_range'
  · rw [← List.mem_flatMap, sing_flat, List.mem_range'_1]; omega
end

end Go.Proofs.Ytaooglagddphnaa
