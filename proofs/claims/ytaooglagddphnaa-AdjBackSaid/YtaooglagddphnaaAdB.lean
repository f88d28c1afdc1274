/- Calls on edges, loads and stores, of a memory in which trees stand too. -/
import Derived.Test.YtaooglagddphnaaAdA
import Derived.Test.YtaooglagddphnaaZF
import Derived.Test.YtaooglagddphnaaEdT
namespace Go.Proofs.Ytaooglagddphnaa
open Go.RowKit

set_option maxRecDepth 100000

/-- Nothing of a node is turned. -/
def Bs (V S : Int) (g g' : Mg9) : Prop := ∀ x k, x ≤ nN V S → g' x k = g x k
section
variable {V S T : Int} {w w' : World} {p gb cap m m' s u v l : Nat} {t t2 : Bool} {f f' : Nat → Int} {g g' g2 : Mg9} {ls : List E1} {mk : Nat → Nat} {ts : List Tp}
theorem Bs.refl (V S : Int) (g : Mg9) : Bs V S g g := fun _ _ _ => rfl
theorem Bs.trans (h : Bs V S g g') (h2 : Bs V S g' g2) : Bs V S g g2 := fun x k hx => (h2 x k hx).trans (h x k hx)
theorem Hp.pri_row {pri pri' : Nat → Nat} : ∀ {t : Tp}, Hp pri t → (∀ y ∈ t.row, pri' y = pri y) → Hp pri' t
  | .nil, _, _ => trivial
  | .node l x r, h, e => by
    have el : ∀ y ∈ l.row, pri' y = pri y := fun y hy => e y (by simp [Tp.row, hy])
    have ex : pri' x = pri x := e x (by simp [Tp.row])
    have er : ∀ y ∈ r.row, pri' y = pri y := fun y hy => e y (by simp [Tp.row, hy])
    refine ⟨fun y hy => ?_, fun y hy => ?_, h.2.2.1.pri_row el, h.2.2.2.pri_row er⟩
    · have := h.1 y hy; unfold ab at this ⊢; rw [ex, el y hy]; exact this
    · have := h.2.1 y hy; unfold ab at this ⊢; rw [ex, er y hy]; exact this
theorem FI.beside (h : FI V S g mk ts) (hb : Bs V S g g') : FI V S g' mk ts :=
  ⟨h.hm, fun t ht => ⟨(h.st t ht).1.same (h.one ht) fun x hx k => hb x k (h.nodes ht x hx).2, (h.st t ht).2.1.pri_row fun y hy => hb y 5 (h.nodes ht y hy).2, (h.st t ht).2.2⟩, h.nd, h.al⟩
/-- What is turned beside the nodes, told of the cells beside them. -/
theorem TM.turned {U : (Nat → Int) → Nat → Int} (hR : Rt V S T) (r : Rl V S T f g) (E : EM w' V S T p gb cap m' (U f)) (hU : ∀ a b i, a i = b i → U a i = U b i) (hd : ∀ a (i : Nat), o5 V S T ≤ (i : Int) → U a i = a i) :
    ∃ g', TM w' V S T p gb cap m' g' ∧ Bs V S g g' ∧ ∀ i : Nat, (i : Int) < o5 V S T → rs V S g' i = U (rs V S g) i := by
  obtain ⟨g', h1, h2, h3⟩ := TM.back E r (hd f)
  exact ⟨g', h1, h2, fun i hi => (h3 i hi).trans (hU _ _ i (r.rest hR hi))⟩
theorem upd_loc {k : Nat} {x : Int} (a b : Nat → Int) (i : Nat) (h : a i = b i) : upd a k x i = upd b k x i := by unfold upd; split; rfl; exact h
theorem eC_o5 (hR : Rt V S T) (hu : (u : Int) < V) (hv : (v : Int) < V) (hne : u ≠ v) : ((eC V S T u v : Nat) : Int) < o5 V S T := by
  have := eC_lo hR hu hv hne
  have e : o4 V S T + pr V = o5 V S T := by unfold o4 o5; omega
  omega
theorem sC_o5 {k : Nat} (hR : Rt V S T) (hs : (s : Int) < S) (hk : k < 7) : ((sC S T s k : Nat) : Int) < o5 V S T := by
  have h1 := sC_spec (T := T) hs hk
  have h2 := sC_int hR hs hk
  have h3 := (sizes hR).vn1
  have h4 := (sizes hR).pr1
  unfold o5
  omega
theorem upd_far {k : Nat} {x : Int} (hk : (k : Int) < o5 V S T) (a : Nat → Int) (i : Nat) (h : o5 V S T ≤ (i : Int)) : upd a k x i = a i := upd_other _ _ (by omega)
theorem tfind_none (A : TM w V S T p gb cap m g) (hE : ER V S T (rs V S g) ls) (hu : (u : Int) < V) (hv : (v : Int) < V) (hne : u ≠ v) (hn : ∀ x ∈ ls, ¬ (x.u = min u v ∧ x.v = max u v)) (hm : m ≤ 100000000) :
    Calls Try.prog 45 #[vE V S T p, .int .i64 (u : Int), .int .i64 (v : Int)] w (Did V S T p gb cap (m + 1) g (.tuple #[.int .i64 0, .bool false, .bool false]) w) := by
  obtain ⟨f, E, r⟩ := A.em
  refine (find_none E (hE.beside A.hR fun i hi => r.rest A.hR hi) hu hv hne hn hm).mono ?_; rintro e w' ⟨rfl, E', O⟩
  exact ⟨rfl, .of_em E' r, O⟩
theorem tfind_some (A : TM w V S T p gb cap m g) (hE : ER V S T (rs V S g) ls) (hu : (u : Int) < V) (hv : (v : Int) < V) (hne : u ≠ v) {x : E1} (hx : x ∈ ls) (ex : x.u = min u v ∧ x.v = max u v) (hm : m ≤ 100000000) :
    Calls Try.prog 45 #[vE V S T p, .int .i64 (u : Int), .int .i64 (v : Int)] w (Did V S T p gb cap (m + 1) g (.tuple #[.int .i64 (x.s : Int), .bool x.t, .bool true]) w) := by
  obtain ⟨f, E, r⟩ := A.em
  refine (find_some E (hE.beside A.hR fun i hi => r.rest A.hR hi) hu hv hne hx ex hm).mono ?_; rintro e w' ⟨rfl, E', O⟩
  exact ⟨rfl, .of_em E' r, O⟩
/-- A call that turns cells beside the nodes. -/
def Dur (V S T : Int) (p gb cap m : Nat) (g : Mg9) (h : Nat → Int) (r : Value) (w : World) (e : Ending) (w' : World) : Prop :=
  ∃ g', e = .returned r ∧ TM w' V S T p gb cap m g' ∧ Bs V S g g' ∧ (∀ i : Nat, (i : Int) < o5 V S T → rs V S g' i = h i) ∧ Only p gb w w'
theorem tput (A : TM w V S T p gb cap m g) (hu : (u : Int) < V) (hv : (v : Int) < V) (hne : u ≠ v) (hs : (s : Int) < S) (hl : (l : Int) < lv V) (hm : m ≤ 99900000) :
    Calls Try.prog 38 #[vE V S T p, .int .i64 (s : Int), .int .i64 (u : Int), .int .i64 (v : Int), .int .i64 (l : Int), .bool t] w (Dur V S T p gb cap (m + 3) g (putF V S T (rs V S g) ⟨s, min u v, max u v, l, t⟩) (.tuple #[]) w) := by
  obtain ⟨f, E, r⟩ := A.em
  refine (put_any E hu hv hne hs hl hm).mono ?_; rintro e w' ⟨rfl, E', O⟩
  obtain ⟨g', h1, h2, h3⟩ := TM.turned (U := fun a => putF V S T a ⟨s, min u v, max u v, l, t⟩) A.hR r E' (fun a b i h => upd_loc _ _ _ (upd_loc _ _ _ (upd_loc _ _ _ h))) (fun a i hi =>
    (upd_far (eC_o5 A.hR (u := min u v) (v := max u v) (by omega) (by omega) (by omega)) _ i hi).trans ((upd_far (sC_o5 A.hR hs (by omega)) _ i hi).trans (upd_far (sC_o5 A.hR hs (by omega)) _ i hi)))
  exact ⟨g', rfl, h1, h2, h3, O⟩
theorem tremove (A : TM w V S T p gb cap m g) (hu : (u : Int) < V) (hv : (v : Int) < V) (hne : u ≠ v) (hm : m ≤ 100000000) :
    Calls Try.prog 48 #[vE V S T p, .int .i64 (u : Int), .int .i64 (v : Int)] w (Dur V S T p gb cap (m + 1) g (upd (rs V S g) (eC V S T u v) 0) (.tuple #[]) w) := by
  obtain ⟨f, E, r⟩ := A.em
  refine (remove_any E hu hv hne hm).mono ?_; rintro e w' ⟨rfl, E', O⟩
  obtain ⟨g', h1, h2, h3⟩ := TM.turned (U := fun a => upd a (eC V S T u v) 0) A.hR r E' (fun a b i h => upd_loc _ _ _ h) (fun a i hi => upd_far (eC_o5 A.hR hu hv hne) _ i hi)
  exact ⟨g', rfl, h1, h2, h3, O⟩
theorem tlift (A : TM w V S T p gb cap m g) (hE : ER V S T (rs V S g) ls) {x : E1} (hx : x ∈ ls) {k : Nat} (hk : (k : Int) < lv V) (hm : m ≤ 99900000) :
    Calls Try.prog 49 #[vE V S T p, .int .i64 (x.s : Int), .int .i64 (k : Int)] w (Dur V S T p gb cap (m + 4) g (upd (rs V S g) (sC S T x.s 2) (k : Int)) (.tuple #[]) w) := by
  obtain ⟨f, E, r⟩ := A.em
  refine (lift_yes11 E ((hE.beside A.hR fun i hi => r.rest A.hR hi).at hx) hk hm).mono ?_; rintro e w' ⟨rfl, E', O⟩
  obtain ⟨g', h1, h2, h3⟩ := TM.turned (U := fun a => upd a (sC S T x.s 2) (k : Int)) A.hR r E' (fun a b i h => upd_loc _ _ _ h) (fun a i hi => upd_far (sC_o5 A.hR (hE.ok x hx).2.2.1 (by omega)) _ i hi)
  exact ⟨g', rfl, h1, h2, h3, O⟩
/-- A cell beside the nodes is loaded, stored. -/
theorem tcell (A : TM w V S T p gb cap m g) {i : Nat} (hi : (i : Int) < o5 V S T) (hm : m ≤ 100000000) :
    Calls Try.prog 165 #[pmV p, .int .i64 (i : Int)] w (Did V S T p gb cap (m + 1) g (.int .u64 (rs V S g i)) w) := by
  obtain ⟨c, f, A1, C, r⟩ := A.ar
  refine (pm_load A1 (o5_cells A.hR hi) C hm).mono ?_; rintro e w' ⟨rfl, A2, O⟩
  rw [r.rest A.hR hi]
  exact ⟨rfl, ⟨A.hR, _, _, A2, C.upd 0, r⟩, O⟩
theorem tcells (A : TM w V S T p gb cap m g) {i : Nat} (hi : (i : Int) < o5 V S T) {x : Int} (h0 : 0 ≤ x) (h1 : x ≤ 18446744073709551615) (hm : m ≤ 100000000) :
    Calls Try.prog 166 #[pmV p, .int .i64 (i : Int), .int .u64 x] w (Dur V S T p gb cap (m + 1) g (upd (rs V S g) i x) (.tuple #[]) w) := by
  obtain ⟨c, f, A1, C, r⟩ := A.ar
  refine (pm_store A1 (o5_cells A.hR hi) h0 h1 C hm).mono ?_; rintro e w' ⟨rfl, A2, O⟩
  obtain ⟨g', h1, h2, h3⟩ := TM.turned (U := fun a => upd a i x) A.hR r ⟨A.hR, _, A2, C.upd 1⟩ (fun a b i h => upd_loc _ _ _ h) (fun a i h => upd_far hi _ i h)
  exact ⟨g', rfl, h1, h2, h3, O⟩
end
end Go.Proofs.Ytaooglagddphnaa
