/- The law AdjLevels. Printed by wip/tools/adl.py. -/
import Derived.Test.YtaooglagddphnaaAdX
import Derived.Carry
namespace Go.Proofs.Ytaooglagddphnaa
open Go.RowKit

set_option maxRecDepth 100000

/-- How often a slot has been told: behind k vertices, j levels of the next one, and what is told of a list. -/
def sn12 (bs : List E1) (k j : Nat) (pre : List Nat) (s : Nat) : Nat :=
  match bs.find? fun e => e.s == s with
  | none => 0
  | some e => (if e.u < k then 1 else 0) + (if e.v < k then 1 else 0) + (if e.l < j ∧ (e.u = k ∨ e.v = k) then 1 else 0) + (if e.l = j ∧ (e.u = k ∨ e.v = k) ∧ s ∈ pre then 1 else 0)
section
variable {bs : List E1} {k j s nl nv : Nat} {pre D : List Nat} {e : E1}
theorem find12 (hs : bs.Pairwise fun a b => a.s ≠ b.s ∧ ¬ (a.u = b.u ∧ a.v = b.v)) (he : e ∈ bs) : bs.find? (fun x => x.s == e.s) = some e := by
  cases h : bs.find? (fun x => x.s == e.s) with
  | none =>
    have := List.find?_eq_none.1 h e he
    simp at this
  | some x =>
    have h1 := List.find?_some h
    have h2 := List.mem_of_find?_eq_some h
    rw [uniq12 hs he x h2 (by simpa using h1)]
theorem find12_no (hn : ∀ x ∈ bs, x.s ≠ s) : bs.find? (fun x => x.s == s) = none := List.find?_eq_none.2 fun x hx => by simpa using hn x hx
theorem find12_mem (h : bs.find? (fun x => x.s == s) = some e) : e ∈ bs ∧ e.s = s := ⟨List.mem_of_find?_eq_some h, by have := List.find?_some h; simpa using this⟩
theorem sn12_start : sn12 bs 0 0 [] s = 0 := by
  unfold sn12
  split
  · rfl
  · simp
theorem sn12_step (hs : bs.Pairwise fun a b => a.s ≠ b.s ∧ ¬ (a.u = b.u ∧ a.v = b.v)) (he : e ∈ bs) (h1 : e.l = j) (h2 : e.u = k ∨ e.v = k) (hp : e.s ∉ pre) : sn12 bs k j (pre ++ [e.s]) e.s = sn12 bs k j pre e.s + 1 := by
  unfold sn12
  rw [find12 hs he]
  dsimp only
  rw [if_pos (⟨h1, h2, by simp⟩ : e.l = j ∧ (e.u = k ∨ e.v = k) ∧ e.s ∈ pre ++ [e.s]), if_neg fun c : e.l = j ∧ (e.u = k ∨ e.v = k) ∧ e.s ∈ pre => hp c.2.2]
theorem sn12_other {x : Nat} (h : s ≠ x) : sn12 bs k j (pre ++ [x]) s = sn12 bs k j pre s := by
  unfold sn12
  have e : s ∈ pre ++ [x] ↔ s ∈ pre := by simp [h]
  simp only [e]
theorem sn12_list (hD : ∀ x ∈ bs, x.s ∈ D ↔ x.l = j ∧ (x.u = k ∨ x.v = k)) : sn12 bs k j D s = sn12 bs k (j + 1) [] s := by
  unfold sn12
  split
  · rfl
  · rename_i e h
    obtain ⟨h1, rfl⟩ := find12_mem h
    have h2 := hD e h1
    by_cases c : e.u = k ∨ e.v = k
    · by_cases c1 : e.l = j
      · rw [if_neg (show ¬ (e.l < j ∧ (e.u = k ∨ e.v = k)) by omega), if_pos (⟨c1, c, h2.2 ⟨c1, c⟩⟩ : e.l = j ∧ (e.u = k ∨ e.v = k) ∧ e.s ∈ D), if_pos (⟨by omega, c⟩ : e.l < j + 1 ∧ (e.u = k ∨ e.v = k))]
        simp
      · rw [if_neg fun q : e.l = j ∧ (e.u = k ∨ e.v = k) ∧ e.s ∈ D => c1 q.1, if_neg fun q : e.l = j + 1 ∧ (e.u = k ∨ e.v = k) ∧ e.s ∈ ([] : List Nat) => nomatch q.2.2]
        by_cases c2 : e.l < j
        · rw [if_pos (⟨c2, c⟩ : e.l < j ∧ (e.u = k ∨ e.v = k)), if_pos (⟨by omega, c⟩ : e.l < j + 1 ∧ (e.u = k ∨ e.v = k))]
        · rw [if_neg fun q : e.l < j ∧ (e.u = k ∨ e.v = k) => c2 q.1, if_neg fun q : e.l < j + 1 ∧ (e.u = k ∨ e.v = k) => by omega]
    · rw [if_neg fun q : e.l < j ∧ (e.u = k ∨ e.v = k) => c q.2, if_neg fun q : e.l = j ∧ (e.u = k ∨ e.v = k) ∧ e.s ∈ D => c q.2.1, if_neg fun q : e.l < j + 1 ∧ (e.u = k ∨ e.v = k) => c q.2, if_neg fun q : e.l = j + 1 ∧ (e.u = k ∨ e.v = k) ∧ e.s ∈ ([] : List Nat) => c q.2.1]
theorem sn12_row (hl : ∀ x ∈ bs, x.l < nl) (hne : ∀ x ∈ bs, x.u ≠ x.v) : sn12 bs k nl [] s = sn12 bs (k + 1) 0 [] s := by
  unfold sn12
  split
  · rfl
  · rename_i e h
    obtain ⟨h1, rfl⟩ := find12_mem h
    have h2 := hl e h1
    have h3 := hne e h1
    simp only [List.not_mem_nil, and_false, if_false, Nat.not_lt_zero, false_and, Nat.add_zero]
    split <;> split <;> split <;> split <;> split <;> omega
theorem sn12_end (hs : bs.Pairwise fun a b => a.s ≠ b.s ∧ ¬ (a.u = b.u ∧ a.v = b.v)) (he : e ∈ bs) (h1 : e.u < nv) (h2 : e.v < nv) : sn12 bs nv 0 [] e.s = 2 := by
  unfold sn12
  rw [find12 hs he]
  dsimp only
  rw [if_pos h1, if_pos h2, if_neg fun q : e.l < 0 ∧ (e.u = nv ∨ e.v = nv) => by omega, if_neg fun q : e.l = 0 ∧ (e.u = nv ∨ e.v = nv) ∧ e.s ∈ ([] : List Nat) => nomatch q.2.2]
theorem sn12_no (hn : ∀ x ∈ bs, x.s ≠ s) : sn12 bs k j pre s = 0 := by
  unfold sn12
  rw [find12_no hn]
theorem sn12_le : sn12 bs k j pre s ≤ 4 := by
  unfold sn12
  split
  · omega
  · split <;> split <;> split <;> split <;> omega
theorem dl_mem {q : Nat → Nat → List Nat} {v l : Nat} (h : LK q bs) : s ∈ dl q v l ↔ ∃ e ∈ bs, e.s = s ∧ e.l = l ∧ (e.u = v ∨ e.v = v) := by
  unfold dl
  rw [List.mem_map]
  constructor
  · rintro ⟨x, hx, e1⟩
    obtain ⟨e, he, h1, h2⟩ := (h v l x).1 hx
    exact ⟨e, he, by omega, h1, by omega⟩
  · rintro ⟨e, he, h1, h2, h3 | h3⟩
    · exact ⟨2 * e.s + 1, (h v l _).2 ⟨e, he, h2, .inl ⟨rfl, h3⟩⟩, by omega⟩
    · exact ⟨2 * e.s + 2, (h v l _).2 ⟨e, he, h2, .inr ⟨rfl, h3⟩⟩, by omega⟩
end
/-- A row of counts. -/
def Cn12 (W : World) (sb n : Nat) (F : Nat → Nat) : Prop := ∃ zs, Blk W sb 3 zs ∧ ∀ k, k < n → zs[k]? = some (.int .i64 ((F k : Nat) : Int))
/-- The law's second half: its play's memory, its edges' map, its counts; its lists' map isn't told any more. -/
structure LV12 (w0 W : World) (q eb lb lo sb : Nat) (V S T : Int) (p gb cap m n : Nat) (f : Nat → Int) (mk : Nat → Nat) (ts : List Tp) (bs : List E1) (sl : Nat) (F : Nat → Nat) : Prop where
  pb : PB12 W q eb lb V S T p
  ta : TA W V S T p gb cap m f mk ts
  fe : FM 3 W eb n (Ge bs)
  fl : Blk W lo 23 #[.int .i64 V, .int .i64 S, .int .i64 T]
  sn : Cn12 W sb sl F
  be : Below w0.heap.size w0 W
  kp : w0.heap.size ≤ p ∧ w0.heap.size ≤ gb ∧ w0.heap.size ≤ sb
section
variable {w w' w0 : World} {q eb lb lo sb p gb cap m m' n sl : Nat} {V S T : Int} {f : Nat → Int} {mk : Nat → Nat} {ts : List Tp} {bs : List E1} {F F' : Nat → Nat}
theorem Cn12.made (w : World) (S : Nat) : Cn12 (w.alloc (.cells (madeCells #[Value.int .i64 0] S) 3)) w.heap.size S (fun _ => 0) :=
  ⟨_, Blk.new w _ _, fun k hk => by
    have h := toList_madeCells_one (.int .i64 0) S
    rw [← Array.getElem?_toList, h]
    simp [hk]⟩
theorem Cn12.cell {k : Nat} (h : Cn12 w sb sl F) (hk : k < sl) : w.cell? ⟨sb, k, none⟩ = some (.int .i64 ((F k : Nat) : Int)) := by
  obtain ⟨zs, hz, he⟩ := h
  exact (hz.cell k).trans (he k hk)
theorem Cn12.lt (h : Cn12 w sb sl F) : sb < w.heap.size := by
  obtain ⟨zs, hz, he⟩ := h
  exact hz.lt
theorem Cn12.frozen (h : Cn12 w sb sl F) (k : Nat) : w.frozen? ⟨sb, k, none⟩ = false := by
  obtain ⟨zs, hz, he⟩ := h
  exact hz.frozen k
theorem Cn12.set_ (h : Cn12 w sb sl F) {k : Nat} (hk : k < sl) {y : Int} (h1 : (F' k : Int) = y) (h2 : ∀ i, i ≠ k → F' i = F i) : Cn12 (w.setCell ⟨sb, k, none⟩ (.int .i64 y)) sb sl F' := by
  obtain ⟨zs, hz, he⟩ := h
  refine ⟨_, hz.set_ k _, fun i hi => ?_⟩
  have hs : i < zs.size := by
    have := he i hi
    rcases Nat.lt_or_ge i zs.size with hlt | hge
    · exact hlt
    · rw [Array.getElem?_eq_none hge] at this; cases this
  by_cases e : i = k
  · subst e
    rw [Array.getElem?_setIfInBounds_self_of_lt hs, h1]
  · rw [Array.getElem?_setIfInBounds_ne (fun h => e h.symm), h2 i e]
    exact he i hi
theorem LV12.below (h : LV12 w0 w q eb lb lo sb V S T p gb cap m n f mk ts bs sl F) (hb : Below w.heap.size w w') : LV12 w0 w' q eb lb lo sb V S T p gb cap m n f mk ts bs sl F := by
  refine ⟨h.pb.below hb, h.ta.below hb, h.fe.keep (hb.block eb h.fe.lt), h.fl.below hb h.fl.lt, ?_, h.be.trans (hb.mono h.be.size), h.kp⟩
  obtain ⟨zs, hz, he⟩ := h.sn
  exact ⟨zs, hz.below hb hz.lt, he⟩
theorem LV12.next (h : LV12 w0 w q eb lb lo sb V S T p gb cap m n f mk ts bs sl F) (hm : TA w' V S T p gb cap m' f mk ts) (ho : Only p gb w w') : LV12 w0 w' q eb lb lo sb V S T p gb cap m' n f mk ts bs sl F := by
  obtain ⟨_, _, _, B, _⟩ := h.ta.em
  obtain ⟨us, hu, _⟩ := B.cells
  refine ⟨Blk.ta h.pb h.ta ho (by decide) (by decide), hm, h.fe.keep (ho.block eb h.fe.lt (h.fe.ne_blk B.own) (h.fe.ne_blk hu)), Blk.ta h.fl h.ta ho (by decide) (by decide), ?_, Only.below h.be ho h.be.size h.kp.1 h.kp.2.1, h.kp⟩
  obtain ⟨zs, hz, he⟩ := h.sn
  exact ⟨zs, Blk.ta hz h.ta ho (by decide) (by decide), he⟩
theorem LV12.more (h : LV12 w0 w q eb lb lo sb V S T p gb cap m n f mk ts bs sl F) (hm : m ≤ m') (hF : ∀ s, F' s = F s) : LV12 w0 w q eb lb lo sb V S T p gb cap m' n f mk ts bs sl F' := by
  obtain rfl : F' = F := funext hF
  exact ⟨h.pb, h.ta.more hm, h.fe, h.fl, h.sn, h.be, h.kp⟩
/-- A count is told anew. -/
theorem LV12.set (h : LV12 w0 w q eb lb lo sb V S T p gb cap m n f mk ts bs sl F) {k : Nat} (hk : k < sl) {y : Int} (h1 : (F' k : Int) = y) (h2 : ∀ i, i ≠ k → F' i = F i) : LV12 w0 (w.setCell ⟨sb, k, none⟩ (.int .i64 y)) q eb lb lo sb V S T p gb cap m n f mk ts bs sl F' := by
  obtain ⟨zs, hx, _⟩ := h.sn
  have hg : w.grownBy (w.setCell ⟨sb, k, none⟩ (.int .i64 y)) (some sb) := ⟨rfl, rfl, rfl, by simp [World.setCell], fun i hi hne => Below.heap_setCell w ⟨sb, k, none⟩ _ i (by rintro rfl; exact hne rfl)⟩
  have ne : ∀ {i : Nat} {ty : TypeId} {cs : Array Value}, Blk w i ty cs → 3 ≠ ty → some sb ≠ some i := fun hi ht e => Blk.ne_ hx hi ht (by injection e)
  obtain ⟨_, _, _, B, _⟩ := h.ta.em
  obtain ⟨us, hz, _⟩ := B.cells
  exact ⟨Blk.grown h.pb hg (ne h.pb (by decide)), h.ta.grown hg (ne B.own (by decide)) (ne hz (by decide)), h.fe.keep (hg.block eb h.fe.lt fun e => h.fe.ne_blk hx (by injection e)), Blk.grown h.fl hg (ne h.fl (by decide)), h.sn.set_ hk h1 h2, h.be.setCell (p := ⟨sb, k, none⟩) h.kp.2.2 _, h.kp⟩
/-- In the law's loops: by vertices; by levels; along a list; along the counts. -/
def VA12 (w0 : World) (q eb lb lo sb : Nat) (V S T : Int) (p gb cap m n : Nat) (f : Nat → Int) (mk : Nat → Nat) (ts : List Tp) (bs : List E1) (sl nv : Nat) (i : Value) (W : World) : Prop :=
  ∃ k, k ≤ nv ∧ i = .int .i64 ((k : Nat) : Int) ∧ LV12 w0 W q eb lb lo sb V S T p gb cap (m + 250 * k) n f mk ts bs sl (sn12 bs k 0 [])
def VB12 (w0 : World) (q eb lb lo sb : Nat) (V S T : Int) (p gb cap m n : Nat) (f : Nat → Int) (mk : Nat → Nat) (ts : List Tp) (bs : List E1) (sl v nl : Nat) (i : Value) (W : World) : Prop :=
  ∃ j, j ≤ nl ∧ i = .int .i64 ((j : Nat) : Int) ∧ LV12 w0 W q eb lb lo sb V S T p gb cap (m + 50 * j) n f mk ts bs sl (sn12 bs v j [])
def VD12 (w0 : World) (q eb lb lo sb : Nat) (V S T : Int) (p gb cap m n : Nat) (f : Nat → Int) (mk : Nat → Nat) (ts : List Tp) (bs : List E1) (sl v l : Nat) (vs : Value) (D : List Nat) (i : Value) (W : World) : Prop :=
  ∃ (pre suf : List Nat) (k : Nat), D = pre ++ suf ∧ pre.length = k ∧ i = .int .i64 (k : Int) ∧ LI W vs D ∧ (∀ b, bk vs = some b → b ≠ sb) ∧ LV12 w0 W q eb lb lo sb V S T p gb cap m n f mk ts bs sl (sn12 bs v l pre)
def VE12 (w0 : World) (q eb lb lo sb : Nat) (V S T : Int) (p gb cap m n : Nat) (f : Nat → Int) (mk : Nat → Nat) (ts : List Tp) (bs : List E1) (sl : Nat) (F : Nat → Nat) (i : Value) (W : World) : Prop :=
  ∃ k, k ≤ sl ∧ i = .int .i64 ((k : Nat) : Int) ∧ LV12 w0 W q eb lb lo sb V S T p gb cap m n f mk ts bs sl F
end
section
variable {V S T : Int} {oa : Option Addr} {ol oc : Nat} {fo : Nat → O12}
set_option maxHeartbeats 16000000 in
theorem llevels12 (w : World) (hO : IsO12 w oa ol fo) :
    Calls Try.prog 6 #[vL V S T, .slice oa ol oc] w fun e w' => e = .returned (.bool true) ∧ Below w.heap.size w w' := by
  have HO0 := Lib.hid hO
  clear hO
  have hmm := @run_makeMap Try.prog
  have HB1 : Hid (Below w.heap.size w (w.alloc (.cells #[.int .i64 V, .int .i64 S, .int .i64 T] 23))) := Lib.hid ((Below.refl _ _).alloc (Nat.le_refl _) _)
  have HL1 : Hid (Blk (w.alloc (.cells #[.int .i64 V, .int .i64 S, .int .i64 T] 23)) w.heap.size 23 #[.int .i64 V, .int .i64 S, .int .i64 T]) := Lib.hid (Blk.new _ _ _)
  go_enter Try.func6, Try.ntmps6
  go_wp2_with fail
  generalize w.heap.size = lo at HL1 ⊢
  generalize (w.alloc (.cells #[.int .i64 V, .int .i64 S, .int .i64 T] 23)) = W1 at HB1 HL1 ⊢
  refine (right_any12 V S T _).mono ?_; rintro e w2 ⟨rfl, hb2⟩
  have HB2 := Lib.hid (HB1.out.trans (hb2.mono HB1.out.size))
  have HL2 := Lib.hid (HL1.out.below hb2 HL1.out.lt)

  clear HB1 HL1 hb2 
  cases hr : rgt12 V S T
  · go_wp2_with fail
    refine (awake_any12 _).mono ?_; rintro e w3 ⟨rfl, hb3⟩
    have HB3 := Lib.hid (HB2.out.trans (hb3.mono HB2.out.size))
    go_wp2_with fail
    go_ret
    exact ⟨rfl, HB3.out⟩
  have HG := Lib.hid (rgt12_yes hr)
  clear hr
  by_cases hol : ol ≤ 60
  rotate_left
  · have holI : ¬ (ol : Int) ≤ 60 := by omega
    go_wp2_with fail
    refine (awake_any12 _).mono ?_; rintro e w3 ⟨rfl, hb3⟩
    have HB3 := Lib.hid (HB2.out.trans (hb3.mono HB2.out.size))
    go_wp2_with fail
    go_ret
    exact ⟨rfl, HB3.out⟩
  have holI : (ol : Int) ≤ 60 := by omega
  have HOL := Lib.hid hol
  clear hol
  obtain ⟨a0, a1, a2⟩ : w2.cell? ⟨lo, 0, none⟩ = some (.int .i64 V) ∧ w2.cell? ⟨lo, 1, none⟩ = some (.int .i64 S) ∧ w2.cell? ⟨lo, 2, none⟩ = some (.int .i64 T) := ⟨HL2.out.cell 0, HL2.out.cell 1, HL2.out.cell 2⟩
  have alt := HL2.out.lt
  go_wp2_with fail
  refine (begun_any12 HG.out.1).mono ?_; rintro e w3 ⟨p, gb, rfl, hT, hB, hp, hg⟩
  have HT3 := Lib.hid hT
  have HB3 := Lib.hid hB
  have HL3 := Lib.hid (HL2.out.below hB HL2.out.lt)

  have HPG := Lib.hid (And.intro hp hg)
  clear hT hB hp hg a0 a1 a2 alt
  obtain ⟨a0, a1, a2⟩ : w3.cell? ⟨lo, 0, none⟩ = some (.int .i64 V) ∧ w3.cell? ⟨lo, 1, none⟩ = some (.int .i64 S) ∧ w3.cell? ⟨lo, 2, none⟩ = some (.int .i64 T) := ⟨HL3.out.cell 0, HL3.out.cell 1, HL3.out.cell 2⟩
  have alt := HL3.out.lt
  go_wp2_with fail
  clear a0 a1 a2 alt hmm
  have HP4 := Lib.hid (PM12.start HT3.out HPG.out.1 HPG.out.2 HB3.out.size)
  have HB4 : Hid (Below w3.heap.size w3 ((((w3.alloc (.cells #[.int .i64 V, .int .i64 S, .int .i64 T, .iface 84 (pmV p), .int .i64 1, .int .i64 0, .int .i64 V, .int .i64 S, .int .i64 T, .iface 84 (pmV p)] 38)).alloc (.map #[] 0)).alloc (.map #[] 0)).alloc (.cells #[.int .i64 V, .int .i64 S, .int .i64 T, .int .i64 V, .int .i64 S, .int .i64 T, .iface 84 (pmV p), .int .i64 1, .int .i64 0, .int .i64 V, .int .i64 S, .int .i64 T, .iface 84 (pmV p), .map (some (w3.heap.size + 1)), .map (some (w3.heap.size + 2))] 45))) := Lib.hid (((((Below.refl _ _).alloc (Nat.le_refl _) _).alloc (by simp) _).alloc (by simp; omega) _).alloc (by simp; omega) _)
  have HA4 : Hid (Blk ((((w3.alloc (.cells #[.int .i64 V, .int .i64 S, .int .i64 T, .iface 84 (pmV p), .int .i64 1, .int .i64 0, .int .i64 V, .int .i64 S, .int .i64 T, .iface 84 (pmV p)] 38)).alloc (.map #[] 0)).alloc (.map #[] 0)).alloc (.cells #[.int .i64 V, .int .i64 S, .int .i64 T, .int .i64 V, .int .i64 S, .int .i64 T, .iface 84 (pmV p), .int .i64 1, .int .i64 0, .int .i64 V, .int .i64 S, .int .i64 T, .iface 84 (pmV p), .map (some (w3.heap.size + 1)), .map (some (w3.heap.size + 2))] 45)) w3.heap.size 38 #[.int .i64 V, .int .i64 S, .int .i64 T, .iface 84 (pmV p), .int .i64 1, .int .i64 0, .int .i64 V, .int .i64 S, .int .i64 T, .iface 84 (pmV p)]) := Lib.hid ((((Blk.new _ _ _).alloc _).alloc _).alloc _)
  have HL4 := Lib.hid (HL3.out.below HB4.out HL3.out.lt)

  have HW : Hid (Below w.heap.size w ((((w3.alloc (.cells #[.int .i64 V, .int .i64 S, .int .i64 T, .iface 84 (pmV p), .int .i64 1, .int .i64 0, .int .i64 V, .int .i64 S, .int .i64 T, .iface 84 (pmV p)] 38)).alloc (.map #[] 0)).alloc (.map #[] 0)).alloc (.cells #[.int .i64 V, .int .i64 S, .int .i64 T, .int .i64 V, .int .i64 S, .int .i64 T, .iface 84 (pmV p), .int .i64 1, .int .i64 0, .int .i64 V, .int .i64 S, .int .i64 T, .iface 84 (pmV p), .map (some (w3.heap.size + 1)), .map (some (w3.heap.size + 2))] 45))) := Lib.hid (HB2.out.trans ((HB3.out.trans (HB4.out.mono HB3.out.size)).mono HB2.out.size))
  have HWS : Hid (w.heap.size ≤ w2.heap.size) := Lib.hid HB2.out.size
  clear HT3 HL3 HB4 HB3 HL2 HB2 HPG 
  generalize hq4 : w3.heap.size + 3 = q at HP4 ⊢
  generalize hl4 : w3.heap.size + 2 = lb at HP4 HA4 HL4 HW ⊢
  generalize he4 : w3.heap.size + 1 = eb at HP4 HA4 HL4 HW ⊢
  clear hq4 hl4 he4
  generalize w3.heap.size = ab at HA4 ⊢
  generalize ((((w3.alloc (.cells #[.int .i64 V, .int .i64 S, .int .i64 T, .iface 84 (pmV p), .int .i64 1, .int .i64 0, .int .i64 V, .int .i64 S, .int .i64 T, .iface 84 (pmV p)] 38)).alloc (.map #[] 0)).alloc (.map #[] 0)).alloc (.cells #[.int .i64 V, .int .i64 S, .int .i64 T, .int .i64 V, .int .i64 S, .int .i64 T, .iface 84 (pmV p), .int .i64 1, .int .i64 0, .int .i64 V, .int .i64 S, .int .i64 T, .iface 84 (pmV p), .map (some (eb)), .map (some (lb))] 45)) = W4 at HP4 HA4 HL4 HW ⊢
  generalize w2.heap.size = base at HP4 HWS
  obtain ⟨n9, hn9⟩ : ∃ k, nN V S = k := ⟨_, rfl⟩
  have HN9 := Lib.hid hn9
  have n416 : n9 ≤ 416 := by rw [← hn9]; exact nN8 HG.out.1 HG.out.2
  rw [hn9] at HP4
  clear hn9
  obtain ⟨m0, hm0⟩ : ∃ k, 10 * n9 = k := ⟨_, rfl⟩
  rw [hm0] at HP4
  have m4160 : m0 ≤ 4160 := by omega
  clear hm0
  generalize sing n9 = ts at HP4
  generalize cellsN V S T = cap at HP4
  have HRel : Hid (Lp12 W4 base q eb lb V S T p gb cap m0 13420 ol ts (.int .i64 0) W4) := Lib.hid ⟨0, _, _, _, _, Nat.zero_le _, rfl, HP4.out, ER.nil fun _ => rfl⟩
  clear HP4
  go_loopw [45] (fun i wr => Lp12 W4 base q eb lb V S T p gb cap m0 13420 ol ts i wr) (fun i _ => ol - (intOf i).toNat)
  case atStart => exact HRel.out
  case round =>
    clear HRel
    obtain ⟨k, f, mk, bs, qq, hk, rfl, hL, hE⟩ := hrel
    have HL := Lib.hid hL
    have HE := Lib.hid hE
    have HBW := Lib.hid (HW.out.trans (hL.ps.be.mono HWS.out))
    clear hL hE
    by_cases hkl : k < ol
    · as_aux_lemma =>
      obtain ⟨ob, off, rfl, hcell⟩ := HO0.out (by omega)
      have hc := hcell k hkl
      obtain ⟨o, ho⟩ : ∃ o, fo k = o := ⟨_, rfl⟩
      rw [ho] at hc
      obtain ⟨kd, s, u, v, l⟩ := o
      have c0 := cell_later HBW.out hc.1
      have c1 := cell_later HBW.out hc.2.1
      have c2 := cell_later HBW.out hc.2.2.1
      have c3 := cell_later HBW.out hc.2.2.2.1
      have c4 := cell_later HBW.out hc.2.2.2.2
      have hkI : (k : Int) < (ol : Int) := by omega
      have hk0 : (0 : Int) ≤ (k : Int) := by omega
      have HM9 : Hid (m0 + 13420 * k + 13420 ≤ 99832200) := Lib.hid (by have := HOL.out; omega)
      have HLa := Lib.hid (HL.out.alloc (.cells #[.int .i64 kd, .int .i64 s, .int .i64 u, .int .i64 v, .int .i64 l] 47))
      clear hc ho hcell HL
      go_wp2_with fail
      refine (lstep12 HLa.out HE.out (by have := HM9.out; omega)).mono ?_
      rintro e w5 ⟨rfl, f', mk', bs', qq', hL5, hE5, _⟩
      rw [HN9.out] at hL5
      have HL5 := Lib.hid hL5
      have HE5 := Lib.hid hE5
      clear hL5 hE5 HLa HE c0 c1 c2 c3 c4
      go_wp2_with fail
      exact ⟨⟨k + 1, f', mk', bs', qq', hkl, by simp, HL5.out.more (by omega) (by omega), HE5.out⟩, by simp [intOf]; omega⟩
    · have ek : ol = k := by omega
      subst ek
      have hkI : ¬ (ol : Int) < (ol : Int) := by omega
      clear hk hkl
      as_aux_lemma =>
      have HMM : Hid (m0 + 13420 * ol ≤ 99707360) := Lib.hid (by have := HOL.out; omega)
      generalize m0 + 13420 * ol = m1 at HL HMM
      generalize 4 * ol = n1 at HL
      obtain ⟨nv, rfl⟩ : ∃ k : Nat, V = (k : Int) := ⟨V.toNat, by have := HG.out.1.v1; omega⟩
      obtain ⟨sl, rfl⟩ : ∃ k : Nat, S = (k : Int) := ⟨S.toNat, by have := HG.out.1.s1; omega⟩
      obtain ⟨nl, hnl⟩ : ∃ k : Nat, lv (nv : Int) = (k : Int) := ⟨(lv (nv : Int)).toNat, by have := lv_bd (nv : Int); omega⟩
      have hl5 : nl ≤ 5 := by have := lv_bd (nv : Int); omega
      have HNL := Lib.hid hnl
      have HR := Lib.hid HG.out.1
      have nv8 : nv ≤ 8 := by have := HG.out.2; omega
      have sl48 : sl ≤ 48 := by have := HR.out.s2; omega
      have m7 : m1 ≤ 99707360 := HMM.out
      clear hnl
      have hmk := run_make_row' (P := Try.prog) 60 3 (.int .i64 0) 8 Try.underlying60 info_i rfl .i64 .i64 sl (by omega) (by omega)
      have HQ := Lib.hid HL.out.lq
      have HLK := Lib.hid HL.out.lk
      have HLEN := Lib.hid (qlen12 HL.out HE.out)
      have HUN := Lib.hid HE.out.un
      have HOK := Lib.hid HE.out.ok
      have HNE : Hid (∀ x ∈ bs, x.u ≠ x.v) := Lib.hid fun x hx => by have := (HOK.out x hx).1; omega
      have HFL := Lib.hid (HL.out.ps.kb _ _ _ HL4.out (by decide) (by decide))
      have HV : Hid (LV12 w (wr.alloc (.cells (madeCells #[Value.int .i64 0] sl) 3)) q eb lb lo wr.heap.size (nv : Int) (sl : Int) T p gb cap m1 n1 f mk ts bs sl (sn12 bs 0 0 [])) := Lib.hid (by
        have hb : Below wr.heap.size wr (wr.alloc (.cells (madeCells #[Value.int .i64 0] sl) 3)) := (Below.refl _ _).alloc (Nat.le_refl _) _
        have e : sn12 bs 0 0 [] = fun _ => 0 := funext fun s => sn12_start
        rw [e]
        exact ⟨HL.out.ps.pb.below hb, HL.out.ps.ta.below hb, HL.out.ps.fe.keep (hb.block eb HL.out.ps.fe.lt), HFL.out.below hb HFL.out.lt, Cn12.made wr sl, HBW.out.trans (hb.mono HBW.out.size), Nat.le_trans HWS.out HL.out.ps.bo.p, Nat.le_trans HWS.out HL.out.ps.bo.g, HBW.out.size⟩)
      have a1 : wr.cell? ⟨lo, 1, none⟩ = some (.int .i64 (sl : Int)) := HFL.out.cell 1
      have a0 : wr.cell? ⟨lo, 0, none⟩ = some (.int .i64 (nv : Int)) := HFL.out.cell 0
      have alt := HFL.out.lt
      clear HL HE HBW HL4 HA4 HW HWS
      go_wp2_with fail
      clear a0 a1 alt HFL hmk
      generalize wr.alloc (.cells (madeCells #[Value.int .i64 0] sl) 3) = w1 at HV ⊢
      generalize wr.heap.size = sb at HV ⊢
      have HRelA : Hid (VA12 w q eb lb lo sb (nv : Int) (sl : Int) T p gb cap m1 n1 f mk ts bs sl nv (.int .i64 0) w1) := Lib.hid ⟨0, Nat.zero_le _, rfl, HV.out⟩
      clear HV
      go_loopw [58] (fun i wr => VA12 w q eb lb lo sb (nv : Int) (sl : Int) T p gb cap m1 n1 f mk ts bs sl nv i wr) (fun i _ => nv - (intOf i).toNat)
      case atStart => exact HRelA.out
      case round =>
        clear HRelA
        obtain ⟨v, hv, rfl, hC⟩ := hrel
        have HC := Lib.hid hC
        clear hC
        by_cases hvn : v < nv
        · have vI : (v : Int) < (nv : Int) := by omega
          have v0 : (0 : Int) ≤ (v : Int) := by omega
          obtain ⟨y0, y1, y2, y3, y4, y5, y6, y7, y8, y9, y10, y11, y12, y13, y14⟩ := HC.out.pb.cells
          have qlt := HC.out.pb.lt
          have a0 : wr.cell? ⟨lo, 0, none⟩ = some (.int .i64 (nv : Int)) := HC.out.fl.cell 0
          have a1 : wr.cell? ⟨lo, 1, none⟩ = some (.int .i64 (sl : Int)) := HC.out.fl.cell 1
          have a2 : wr.cell? ⟨lo, 2, none⟩ = some (.int .i64 T) := HC.out.fl.cell 2
          have alt := HC.out.fl.lt
          go_wp2_with fail
          refine (levels_yes _ _ _ HR.out _).mono ?_; rintro e w2 ⟨rfl, B2⟩; rw [HNL.out]
          have HC2 := Lib.hid (HC.out.below B2)
          clear HC B2 y0 y1 y2 y3 y4 y5 y6 y7 y8 y9 y10 y11 y12 y13 y14 a0 a1 a2 alt qlt
          have HRelB : Hid (VB12 w q eb lb lo sb (nv : Int) (sl : Int) T p gb cap (m1 + 250 * v) n1 f mk ts bs sl v nl (.int .i64 0) w2) := Lib.hid ⟨0, Nat.zero_le _, rfl, HC2.out⟩
          clear HC2
          go_wp2_with fail
          go_loopw [63] (fun i wr => VB12 w q eb lb lo sb (nv : Int) (sl : Int) T p gb cap (m1 + 250 * v) n1 f mk ts bs sl v nl i wr) (fun i _ => nl - (intOf i).toNat)
          case atStart => exact HRelB.out
          case round =>
            clear HRelB
            obtain ⟨l, hl, rfl, hC⟩ := hrel
            have HC := Lib.hid hC
            clear hC
            by_cases hln : l < nl
            · have lI : (l : Int) < (nl : Int) := by omega
              have l0 : (0 : Int) ≤ (l : Int) := by omega
              have HP : Hid ((v : Int) < (nv : Int) ∧ (l : Int) < lv (nv : Int)) := Lib.hid ⟨vI, by have := HNL.out; omega⟩
              obtain ⟨D, hD⟩ : ∃ D, dl qq v l = D := ⟨_, rfl⟩
              have HDM : Hid (∀ s, s ∈ D ↔ ∃ e ∈ bs, e.s = s ∧ e.l = l ∧ (e.u = v ∨ e.v = v)) := Lib.hid fun s => by rw [← hD]; exact dl_mem HLK.out
              have HDN : Hid D.Nodup := Lib.hid (by rw [← hD]; exact dl_nodup HLK.out HQ.out HUN.out HNE.out)
              have HDE : Hid (∀ x ∈ bs, x.s ∈ D ↔ x.l = l ∧ (x.u = v ∨ x.v = v)) := Lib.hid fun x hx => by
                rw [HDM.out]
                constructor
                · rintro ⟨e, he, h1, h2⟩
                  rw [uniq12 HUN.out hx e he h1] at h2
                  exact h2
                · exact fun h => ⟨x, hx, rfl, h⟩
              have HDL : Hid ((((qq v l).length : Nat) : Int) ≤ (sl : Int)) := Lib.hid (HLEN.out v l)
              have hDl : D.length = (qq v l).length := by rw [← hD]; unfold dl; simp
              obtain ⟨y0, y1, y2, y3, y4, y5, y6, y7, y8, y9, y10, y11, y12, y13, y14⟩ := HC.out.pb.cells
              have qlt := HC.out.pb.lt
              have a0 : wr.cell? ⟨lo, 0, none⟩ = some (.int .i64 (nv : Int)) := HC.out.fl.cell 0
              have a1 : wr.cell? ⟨lo, 1, none⟩ = some (.int .i64 (sl : Int)) := HC.out.fl.cell 1
              have a2 : wr.cell? ⟨lo, 2, none⟩ = some (.int .i64 T) := HC.out.fl.cell 2
              have alt := HC.out.fl.lt
              go_wp2_with fail
              refine (list_any12 HC.out.ta HQ.out HDL.out HP.out.1 HP.out.2 (by omega) rfl rfl).mono ?_; rintro e w3 ⟨vs, rfl, hli, hbk, A3, O3⟩
              rw [hD] at hli
              obtain ⟨av, cv, rfl, _, _⟩ := hli.shape
              have HC3 := Lib.hid ((HC.out.next A3 O3).more (m' := m1 + 250 * v + 50 * l + 50) (by have := HDL.out; omega) fun _ => rfl)
              have hsl := HC.out.sn.lt
              have HRelD : Hid (VD12 w q eb lb lo sb (nv : Int) (sl : Int) T p gb cap (m1 + 250 * v + 50 * l + 50) n1 f mk ts bs sl v l (.slice av D.length cv) D (.int .i64 0) w3) := Lib.hid ⟨[], D, 0, rfl, rfl, rfl, hli, (fun b hb => by have := hbk b hb; omega), HC3.out⟩
              obtain ⟨ln, hln9⟩ : ∃ k, D.length = k := ⟨_, rfl⟩
              have HLN := Lib.hid hln9
              have ln48 : ln ≤ 48 := by have := HDL.out; omega
              rw [hln9] at HRelD ⊢
              clear HC HC3 A3 O3 hli hbk hD hDl hsl hln9 y0 y1 y2 y3 y4 y5 y6 y7 y8 y9 y10 y11 y12 y13 y14 a0 a1 a2 alt qlt
              go_wp2_with fail
              go_loopw [74] (fun i wr => VD12 w q eb lb lo sb (nv : Int) (sl : Int) T p gb cap (m1 + 250 * v + 50 * l + 50) n1 f mk ts bs sl v l (.slice av ln cv) D i wr) (fun i _ => ln - (intOf i).toNat)
              case atStart => exact HRelD.out
              case round =>
                clear HRelD
                obtain ⟨pre, suf, k, hps, hk, rfl, hli, hbk, hC⟩ := hrel
                have HC := Lib.hid hC
                have HLI := Lib.hid hli
                have HBK := Lib.hid hbk
                have hsum : pre.length + suf.length = ln := by rw [← HLN.out, hps]; simp
                clear hC hli hbk
                by_cases hkl : k < ln
                · obtain ⟨x, suf, rfl⟩ : ∃ x s, suf = x :: s := by
                    cases suf with
                    | nil => simp at hsum; omega
                    | cons y s => exact ⟨y, s, rfl⟩
                  have hxD : D[k]? = some x := by rw [hps, ← hk]; simp
                  obtain ⟨b1, o1, d1, e9, _, _, _, q1⟩ := HLI.out.open_ (by rw [hps]; simp)
                  injection e9 with e91 e92 e93
                  subst e91
                  have z1 := q1 k x hxD
                  have b1lt := (show b1 < wr.heap.size from cell_lt12 z1)
                  have HNS : Hid (b1 ≠ sb) := Lib.hid (HBK.out b1 (bk_some (by rw [HLN.out] at *; omega)))
                  obtain ⟨e, heb, rfl, hel, heuv⟩ := (HDM.out x).1 (by rw [hps]; simp)
                  have HEB : Hid (e ∈ bs ∧ e.l = l ∧ (e.u = v ∨ e.v = v) ∧ e.s ∉ pre) := Lib.hid ⟨heb, hel, heuv, fun hp => by
                    have hn := HDN.out
                    rw [hps] at hn
                    exact (List.nodup_append.1 hn).2.2 _ hp _ (by simp) rfl⟩
                  have HPS : Hid (D = (pre ++ [e.s]) ++ suf ∧ (pre ++ [e.s]).length = k + 1) := Lib.hid ⟨by rw [hps]; simp, by simp; exact hk⟩
                  have hok := HOK.out e heb
                  have es48 : e.s < sl := by have := hok.2.2.1; omega
                  have hkey := keyI (e.s : Int) (by omega)
                  have hlk := (HC.out.fe.look_some true keyedI Try.underlying42 hkey ⟨e, heb, rfl, rfl⟩)
                  have kI : (k : Int) < (ln : Int) := by omega
                  have k0 : (0 : Int) ≤ (k : Int) := by omega
                  have sI : (e.s : Int) < (sl : Int) := by omega
                  have s0 : (0 : Int) ≤ (e.s : Int) := by omega
                  have cs := HC.out.sn.cell es48
                  have cfz := HC.out.sn.frozen e.s
                  have clt := HC.out.sn.lt
                  obtain ⟨g, hg⟩ : ∃ g, sn12 bs v l pre e.s = g := ⟨_, rfl⟩
                  have HGG := Lib.hid hg
                  have g4 : g ≤ 4 := by rw [← hg]; exact sn12_le
                  rw [hg] at cs
                  have wg : IntKind.i64.wrap ((g : Int) + 1) = (g : Int) + 1 := IntWalk.i64_in _ (by omega)
                  have HSET : Hid (LV12 w (wr.setCell ⟨sb, e.s, none⟩ (.int .i64 ((g : Int) + 1))) q eb lb lo sb (nv : Int) (sl : Int) T p gb cap (m1 + 250 * v + 50 * l + 50) n1 f mk ts bs sl (sn12 bs v l (pre ++ [e.s]))) := Lib.hid (HC.out.set es48 (by rw [sn12_step HUN.out HEB.out.1 HEB.out.2.1 HEB.out.2.2.1 HEB.out.2.2.2, HGG.out]; simp) fun i hi => sn12_other hi)
                  have HLI2 : Hid (LI (wr.setCell ⟨sb, e.s, none⟩ (.int .i64 ((g : Int) + 1))) (.slice (some ⟨b1, o1, none⟩) ln cv) D) := Lib.hid (HLI.out.keep fun b hb => Below.heap_setCell wr ⟨sb, e.s, none⟩ _ b (HBK.out b hb))
                  clear hps hk hxD q1 e92 e93 hel hok hg hsum hkey
                  obtain ⟨es, eu, ev, el, et⟩ := e
                  dsimp only at *
                  obtain ⟨y0, y1, y2, y3, y4, y5, y6, y7, y8, y9, y10, y11, y12, y13, y14⟩ := HC.out.pb.cells
                  have qlt := HC.out.pb.lt
                  have a0 : wr.cell? ⟨lo, 0, none⟩ = some (.int .i64 (nv : Int)) := HC.out.fl.cell 0
                  have a1 : wr.cell? ⟨lo, 1, none⟩ = some (.int .i64 (sl : Int)) := HC.out.fl.cell 1
                  have a2 : wr.cell? ⟨lo, 2, none⟩ = some (.int .i64 T) := HC.out.fl.cell 2
                  have alt := HC.out.fl.lt
                  have fin : ∀ W2, W2 = (wr.setCell ⟨sb, es, none⟩ (.int .i64 ((g : Int) + 1))).alloc (.cells #[.int .i64 (eu : Int), .int .i64 (ev : Int), .int .i64 (el : Int), .bool et] 55) → VD12 w q eb lb lo sb (nv : Int) (sl : Int) T p gb cap (m1 + 250 * v + 50 * l + 50) n1 f mk ts bs sl v l (.slice (some ⟨b1, o1, none⟩) ln cv) D (.int .i64 ((k + 1 : Nat) : Int)) W2 := by
                    rintro _ rfl
                    have hb := (Below.refl (wr.setCell ⟨sb, es, none⟩ (.int .i64 ((g : Int) + 1))).heap.size (wr.setCell ⟨sb, es, none⟩ (.int .i64 ((g : Int) + 1)))).alloc (Nat.le_refl _) (.cells #[.int .i64 (eu : Int), .int .i64 (ev : Int), .int .i64 (el : Int), .bool et] 55)
                    exact ⟨pre ++ [es], suf, k + 1, HPS.out.1, HPS.out.2, rfl, HLI2.out.below hb, HBK.out, HSET.out.below hb⟩
                  have HFIN := Lib.hid fin
                  obtain ⟨_, rfl, heuv, _⟩ := HEB.out
                  have nl1 : ((el : Int) != (el : Int)) = false := bne_self_eq_false _
                  clear fin
                  by_cases c1 : eu = v
                  · as_aux_lemma =>
                    have nu1 : ((eu : Int) != (v : Int)) = false := by rw [c1]; exact bne_self_eq_false _
                    clear c1 heuv
                    go_wp2_with fail
                    exact ⟨HFIN.out _ rfl, by simp [intOf]; omega⟩
                  · as_aux_lemma =>
                    have nu1 : ((eu : Int) != (v : Int)) = true := bne_iff_ne.2 (by omega)
                    have nv1 : ((ev : Int) != (v : Int)) = false := by rw [show ev = v by omega]; exact bne_self_eq_false _
                    clear c1 heuv
                    go_wp2_with fail
                    exact ⟨HFIN.out _ rfl, by simp [intOf]; omega⟩
                · as_aux_lemma =>
                  have ek : k = ln := by omega
                  subst ek
                  have kI : ¬ (k : Int) < (k : Int) := by omega
                  have hsuf : suf = [] := List.eq_nil_of_length_eq_zero (by omega)
                  subst hsuf
                  have hpD : pre = D := by rw [hps]; simp
                  have HC9 := Lib.hid (HC.out.more (m' := m1 + 250 * v + 50 * (l + 1)) (F' := sn12 bs v (l + 1) []) (by omega) fun s => by rw [hpD]; exact (sn12_list HDE.out).symm)
                  clear hkl hps hk hsum HC
                  go_wp2_with fail
                  exact ⟨⟨l + 1, by omega, by simp, HC9.out⟩, by simp [intOf]; omega⟩
            · as_aux_lemma =>
              have ek : l = nl := by omega
              subst ek
              have kI : ¬ (l : Int) < (l : Int) := by omega
              have HC9 := Lib.hid (HC.out.more (m' := m1 + 250 * (v + 1)) (F' := sn12 bs (v + 1) 0 []) (by omega) fun s => (sn12_row (fun x hx => by have := (HOK.out x hx).2.2.2; have := HNL.out; omega) HNE.out).symm)
              clear hl hln HC
              go_wp2_with fail
              exact ⟨⟨v + 1, by omega, by simp, HC9.out⟩, by simp [intOf]; omega⟩
        · as_aux_lemma =>
          have ek : v = nv := by omega
          subst ek
          have kI : ¬ (v : Int) < (v : Int) := by omega
          clear hv hvn
          have HFF : Hid (∀ e ∈ bs, sn12 bs v 0 [] e.s = 2) := Lib.hid fun e he => sn12_end HUN.out he (by have := HOK.out e he; omega) (by have := HOK.out e he; omega)
          have HF0 : Hid (∀ s, (∀ x ∈ bs, x.s ≠ s) → sn12 bs v 0 [] s = 0) := Lib.hid fun s hs => sn12_no hs
          generalize sn12 bs v 0 [] = FF at HC HFF HF0
          generalize m1 + 250 * v = m2 at HC
          have HRelE : Hid (VE12 w q eb lb lo sb (v : Int) (sl : Int) T p gb cap m2 n1 f mk ts bs sl FF (.int .i64 0) wr) := Lib.hid ⟨0, Nat.zero_le _, rfl, HC.out⟩
          clear HC
          go_wp2_with fail
          go_loopw [118] (fun i wr => VE12 w q eb lb lo sb (v : Int) (sl : Int) T p gb cap m2 n1 f mk ts bs sl FF i wr) (fun i _ => sl - (intOf i).toNat)
          case atStart => exact HRelE.out
          case round =>
            clear HRelE
            obtain ⟨s, hs, rfl, hC⟩ := hrel
            have HC := Lib.hid hC
            clear hC
            by_cases hsn : s < sl
            · have sI : (s : Int) < (sl : Int) := by omega
              have s0 : (0 : Int) ≤ (s : Int) := by omega
              obtain ⟨a, b, d, t, c, hc1, hc2, hlook⟩ := fe_look HC.out.fe (s := (s : Int)) (by omega)
              have hk1 := hlook wr rfl
              have cs := HC.out.sn.cell hsn
              have clt := HC.out.sn.lt
              obtain ⟨y0, y1, y2, y3, y4, y5, y6, y7, y8, y9, y10, y11, y12, y13, y14⟩ := HC.out.pb.cells
              have qlt := HC.out.pb.lt
              have HC2 := Lib.hid (HC.out.below ((Below.refl _ _).alloc (Nat.le_refl _) (.cells #[.int .i64 (a : Int), .int .i64 (b : Int), .int .i64 (d : Int), .bool t] 55)))
              cases c with
              | false =>
                as_aux_lemma =>
                have hf := HF0.out s fun x hx e => hc2 rfl x hx (by rw [e])
                rw [hf] at cs
                clear hf hc1 hc2 hlook HC
                go_wp2_with fail
                exact ⟨⟨s + 1, by omega, by simp, HC2.out⟩, by simp [intOf]; omega⟩
              | true =>
                as_aux_lemma =>
                obtain ⟨x, hx, e1⟩ : ∃ x ∈ bs, (s : Int) = (x.s : Int) := by
                  obtain ⟨x, hx, e1, _⟩ := hc1 rfl
                  exact ⟨x, hx, e1⟩
                have hf := HFF.out x hx
                rw [show x.s = s by omega] at hf
                rw [hf] at cs
                clear hf hc1 hc2 hlook HC hx e1
                go_wp2_with fail
                exact ⟨⟨s + 1, by omega, by simp, HC2.out⟩, by simp [intOf]; omega⟩
            · as_aux_lemma =>
              have ek : s = sl := by omega
              subst ek
              have sI : ¬ (s : Int) < (s : Int) := by omega
              have HBW := Lib.hid HC.out.be
              clear hs hsn HC
              go_wp2_with fail
              refine (awake_any12 _).mono ?_; rintro e w9 ⟨rfl, hb9⟩
              have HBE := Lib.hid (HBW.out.trans (hb9.mono HBW.out.size))
              go_wp2_with fail
              go_ret
              exact ⟨rfl, HBE.out⟩
end
end Go.Proofs.Ytaooglagddphnaa
